/- Contracts of layer column: column, writtenSo, Read. Contracts: HasPrefix, CutPrefix, number, split. Contracts: number, split. -/
import Derived.Test.YtpljdjmpamjkhaaGreatDoorZbd
import Derived.Test.YtpljdjmpamjkhaaGreatDoorZbg
import Derived.Deep.QuietTactic
import Derived.BigQuiet
set_option linter.unusedVariables false
set_option linter.unusedSimpArgs false
set_option maxRecDepth 100000
set_option maxHeartbeats 4000000
namespace Go.Proofs.YtpljdjmpamjkhaaGreatDoor
open Go.RowKit Go.Lib
theorem values_any {w:World} {p f:Nat} {b:List Nat} (h:Rs w p b f) (hf:Er f) (k n:Nat) (hk:1<=k/\k<=3) (hn:n<=256) :
  Calls Tryz.prog 263 #[.pointer (some ⟨p,0,none⟩),.int .u8 (k:Int),.int .i64 (n:Int)] w (VPost k n b p f w):=by
 obtain rfl | rfl | rfl:k=1∨k=2∨k=3:=by omega
 ·exact values_1 h hf n hn
 ·exact values_2 h hf n hn
 ·exact values_3 h hf n hn
def CP (k n:Nat) (b:List Nat) (l:List (Nat×Int×List Nat)) (f':Nat):Prop :=
 Er f'/\(f'=0->Col k l/\l.length=n)/\(f'≠0->l=[])/\∀ y,Col k y->y.length=n->b=colM k y->f'=0/\l=y
theorem fillC_cells {k:Nat}:∀ {t:List Nat} {s:List (Nat×Int×List Nat)},(∀ c∈s,Cellk k c)->∀ c∈fillC t s,Cellk k c:=fun {t s} h=>(fillC_inv (P:=Cellk k) (Or.inl rfl) h).2
theorem col_bad {k n:Nat} {b b1 b2:List Nat} {th:List Nat} {s:List (Nat×Int×List Nat)} {f1 f2:Nat} (h1:RP (Nu n) (byH b n) 0 th b1 f1) (h2:RP (Nv k th.sum) (byT k b1) f1 s b2 f2) (hn:f2≠0):CP k n b [] f2:=by
 refine ⟨h2.1,fun h=>absurd h hn,fun _=>rfl,fun y a1 a2 a3=>?_⟩
 obtain ⟨d1,d2,d3⟩:=h1.2.2 (there y) (tailB k y) rfl ⟨by rw [there_length];exact a2,there_two y⟩ ⟨y,a2,rfl,a3⟩
 have ho:=ownC_own y
 obtain ⟨e1,_⟩:=h2.2.2 (ownC y) [] d1 ⟨by rw [d2,sum_there],fun c hc=>⟨a1.2.2 c (ownC_mem hc).1,(ownC_mem hc).2⟩⟩ ⟨by rw [d3];unfold tailB;rw [ho],rfl⟩
 exact absurd e1 hn
theorem col_good {k n:Nat} {b b1 b2:List Nat} {th:List Nat} {s:List (Nat×Int×List Nat)} {f1:Nat} (hk:1<=k/\k<=3) (hn:n<=256) (h1:RP (Nu n) (byH b n) 0 th b1 f1) (h2:RP (Nv k th.sum) (byT k b1) f1 s b2 0):CP k n b (fillC th s) 0:=by
 obtain ⟨g1,g2⟩:=h2.2.1 rfl
 obtain ⟨_,g3⟩:=h1.2.1 g1
 refine ⟨er0,fun _=>⟨⟨hk,by rw [fillC_length,g3.1];exact hn,fillC_cells fun c hc=>(g2.2 c hc).1⟩,by rw [fillC_length,g3.1]⟩,fun h=>absurd rfl h,fun y a1 a2 a3=>⟨rfl,?_⟩⟩
 obtain ⟨d1,d2,d3⟩:=h1.2.2 (there y) (tailB k y) rfl ⟨by rw [there_length];exact a2,there_two y⟩ ⟨y,a2,rfl,a3⟩
 have ho:=ownC_own y
 obtain ⟨_,e2,_⟩:=h2.2.2 (ownC y) [] d1 ⟨by rw [d2,sum_there],fun c hc=>⟨a1.2.2 c (ownC_mem hc).1,(ownC_mem hc).2⟩⟩ ⟨by rw [d3];unfold tailB;rw [ho],rfl⟩
 rw [d2,e2]
 exact fillC_ownC a1.2.2
theorem column_any {w:World} {p:Nat} {b:List Nat} (h:Rs w p b 0) (k n:Nat) (hk:1<=k/\k<=3) (hn:n<=256) :
  Calls Tryz.prog 235 #[.pointer (some ⟨p,0,none⟩),.int .u8 (k:Int),.int .i64 (n:Int)] w fun r w'=>∃ l b' f',(∃ v,r=.returned v/\OwnV w' w.heap.size v l)/\Rs w' p b' f'/\CP k n b l f'/\Fr p w.heap.size w w':=by
 have hlt:=h.lt
 have HN:=hidden (nulls_any h er0 n hn)
 have HGOOD:=hidden (fun b1 b2 th s f1 h1 h2=>col_good (k:=k) (n:=n) (b:=b) (b1:=b1) (b2:=b2) (th:=th) (s:=s) (f1:=f1) hk hn h1 h2)
 have HK:=hidden hk
 clear h hk
 go_enter Tryz.func235,Tryz.ntmps235
 go_wp2_with fail
 refine HN.out.mono ?_
 rintro e w1 ⟨th,b1,f1,⟨v1,rfl,ho1⟩,ht2,htl,hs1,hrp1,hf1⟩
 have HO1:=hidden ho1
 have HT2:=hidden ht2
 have HS1:=hidden hs1
 have HRP1:=hidden hrp1
 have HF1:=hidden hf1
 have hz1:=hf1.size
 have hsum:th.sum<=256:=by have:=sum_two ht2;omega
 have HON:=hidden (ones_any (OwnU.sv ho1) ht2 (by omega))
 have HVA:=hidden (values_any hs1 hrp1.1 k th.sum HK.out hsum)
 have HVB:Hid (∀ j,v1.ownBlock=some j->j<w1.heap.size/\j≠p):=hidden (fun j hj=>by
  have:=ho1.lt j hj
  exact ⟨this.2,by omega⟩)
 clear ho1 ht2 hs1 hrp1 hf1
 go_wp2_with fail
 refine HON.out.mono ?_
 rintro e w2 ⟨rfl,rfl⟩
 go_wp2_with fail
 refine HVA.out.mono ?_
 rintro e w3 ⟨s,b3,f3,⟨v3,rfl,ho3⟩,hs3,hrp3,hf3⟩
 have HO3:=hidden ho3
 have HS3:=hidden hs3
 have HRP3:=hidden hrp3
 have HF3:=hidden (HF1.out.trans (hf3.mono hz1))
 have hz3:=hf3.size
 have HT3:=hidden ((OwnU.sv HO1.out).keptFr HVB.out hf3)
 obtain ⟨a0,cap0,k0,k1,k2,k3,k4,k5,k6,k7,k8,k9,k10⟩:=hs3.cells
 clear ho3 hs3 hrp3 hf3 k0 k2 k3 k4 k5 k6 k7 k8 k9 k10
 by_cases hf0:f3=0
 ·subst hf0
  have HCP:=hidden (HGOOD.out b1 b3 th s f1 HRP1.out HRP3.out)
  obtain ⟨g1,g2⟩:=HRP3.out.2.1 rfl
  have HSP:=hidden (spread_any HT3.out HT2.out (by omega) (OwnV.sv HO3.out) g2.1 (fun c hc=>(g2.2 c hc).2))
  clear g1 g2
  generalize fillC th s=L at *
  go_wp2_with fail
  refine HSP.out.mono ?_
  rintro e w4 ⟨⟨v4,rfl,ho4⟩,hb4⟩
  have HO4:=hidden (own_low (B:=w.heap.size) ho4 (by omega))
  have HS4:=hidden (HS3.out.kept hb4 HS3.out.lt)
  have HF4:=hidden (HF3.out.trans (Fr.of_below (hb4.mono (by omega))))
  clear ho4 hb4
  go_wp2_with fail
  go_ret
  exact ⟨L,_,0,⟨_,rfl,HO4.out⟩,HS4.out,HCP.out,HF4.out⟩
 ·have hne:((f3:Int) != 0)=true:=by simpa using hf0
  have HCP:=hidden (col_bad (k:=k) HRP1.out HRP3.out hf0)
  clear hf0
  go_wp2_with fail
  go_ret
  exact ⟨[],_,f3,⟨_,rfl,OwnV.nil _ _⟩,HS3.out,HCP.out,HF3.out⟩
theorem cwritten_any {w:World} {vb vl:Value} {b:List Nat} {l:List (Nat×Int×List Nat)} {k:Nat} (hb:Sv w vb (vals .u8 b)) (h8:Bs b) (hs:Sv w vl (vvals l)) (hlow:∀ k,vl.ownBlock=some k->k<w.heap.size) (hc:Col k l) :
  Calls Tryz.prog 236 #[.int .u8 (k:Int),vb,vl] w fun e w'=>e=.returned (.bool (decide (colM k l=b)))/\Below w.heap.size w w':=by
 have HW:=hidden (write_any hs hlow (fun c hcc=>(hc.2.2 c hcc).fine) k)
 rw [writeC_col hc] at HW
 have HB:=hidden hb
 have H8:=hidden h8
 have HCB:=hidden (col_size hc).2
 clear hb h8 hs hlow hc
 unfold WritePost at HW
 generalize colM k l=cb at *
 go_enter Tryz.func236,Tryz.ntmps236
 go_wp2_with fail
 refine HW.out.mono ?_
 rintro e w1 ⟨⟨v1,rfl,ho1⟩,hb1⟩
 have HEQ:=hidden (equal_any ho1.sv (HB.out.kept hb1) HCB.out H8.out)
 have HB1:=hidden hb1
 clear ho1 hb1
 go_wp2_with fail
 refine HEQ.out.mono ?_
 rintro e w2 ⟨rfl,rfl⟩
 go_wp2_with fail
 go_ret
 exact ⟨rfl,HB1.out⟩
def Told6 (k:Nat) (b:List Nat) (n:Int) (l:List (Nat×Int×List Nat)) (er:Nat):Prop :=
 if 1<=k/\k<=3 then
  (if 0<=n/\n<=256 then (er=0/\readC k b n.toNat=some l)∨(er≠0/\Er er/\l=[]/\readC k b n.toNat=none) else er=1/\l=[])
 else er=10/\l=[]
def RPost6 (k:Nat) (b:List Nat) (n:Int) (w:World) (e:Ending) (w':World):Prop :=
 ∃ (v:Value) (l:List (Nat×Int×List Nat)) (er:Nat),e=.returned (.tuple #[v,.int .i64 (er:Int)])/\OwnV w' w.heap.size v l/\Told6 k b n l er/\Below w.heap.size w w'
theorem told_main {k n:Nat} {b:List Nat} {l:List (Nat×Int×List Nat)} {er:Nat} (hk:1<=k/\k<=3) (hn:n<=256) (h:(er=0/\readC k b n=some l)∨(er≠0/\Er er/\l=[]/\readC k b n=none)):Told6 k b (n:Int) l er:=by
 unfold Told6
 rw [if_pos hk,if_pos (by omega),Int.toNat_natCast]
 exact h
theorem cp_none {k n:Nat} {b:List Nat} {l:List (Nat×Int×List Nat)} {f':Nat} (hk:1<=k/\k<=3) (hn:n<=256) (hb:Bs b) (hc:CP k n b l f') (h:¬ (f'=0/\colM k l=b)):readC k b n=none:=by
 cases e:readC k b n with
 | none=>rfl
 | some y =>
  obtain ⟨h1,h2,h3⟩:=(readC_iff hk hn hb).1 e
  obtain ⟨d1,d2⟩:=hc.2.2.2 y h1 h2 h3.symm
  exact absurd ⟨d1,by rw [d2];exact h3⟩ h
theorem cread_main {w:World} {vb:Value} {b:List Nat} (hb:Sv w vb (vals .u8 b)) (h8:Bs b) (k n:Nat) (hk:1<=k/\k<=3) (hn:n<=256) :
  Calls Tryz.prog 214 #[.int .u8 (k:Int),vb,.int .i64 (n:Int)] w (RPost6 k b (n:Int) w):=by
 have HSB:=hidden hb
 have H8:=hidden h8
 have HOF:=hidden (ofColumns_any k)
 rw [decide_eq_true hk] at HOF
 have hb0:=hb
 obtain ⟨a,cap,rfl,hcap,hcm⟩:=hb.form1
 rw [vals_length] at *
 have hn0:¬ (n:Int)<0:=by omega
 have hn1:¬ (n:Int) > 256:=by omega
 have HST:Hid (Rs (w.alloc (.cells #[.slice a b.length cap,.int .i64 0] 271)) w.heap.size b 0):=hidden (by
  refine ⟨a,cap,heap_new _ _,hb0.kept (below_one w _),fun h0 j hj=>?_,h8⟩
  obtain ⟨a',cap',e,_,_,_,h4⟩:=hb0
  rw [vals_length] at e h4
  simp only [Value.slice.injEq] at e
  obtain ⟨rfl,_,_⟩:=e
  obtain ⟨g,off,rfl,h5,_⟩:=h4 h0
  cases hj
  exact h5)
 have hza:=World.size_alloc w (.cells #[.slice a b.length cap,.int .i64 0] 271)
 have HCO:=hidden (column_any HST.out k n hk hn)
 have HBA:=hidden (below_one w (.cells #[.slice a b.length cap,.int .i64 0] 271))
 have HK:=hidden hk
 have HNONE:=hidden (fun l f' hc h=>cp_none (k:=k) (n:=n) (b:=b) (l:=l) (f':=f') hk hn h8 hc h)
 have HTM:=hidden (fun l er h=>told_main (k:=k) (n:=n) (b:=b) (l:=l) (er:=er) hk hn h)
 have HIFF:=hidden (fun l=>(readC_iff (k:=k) (n:=n) (b:=b) (l:=l) hk hn h8).2)
 clear hb hb0 h8 hk hcap hcm
 go_enter Tryz.func214,Tryz.ntmps214
 go_wp2_with fail
 refine (HOF.out _).mono ?_
 rintro e w1 ⟨rfl,rfl⟩
 go_wp2_with fail
 refine HCO.out.mono ?_
 rintro e w2 ⟨l,b2,f2,⟨v2,rfl,ho2⟩,hs2,hcp,hf2⟩
 have hb2:Below w1.heap.size w1 w2:=HBA.out.trans (hf2.below (Nat.le_refl _) (by omega))
 have HO2:=hidden (own_low (B:=w1.heap.size) ho2 (by omega))
 have HS2:=hidden hs2
 have HCP:=hidden hcp
 have HB2:=hidden hb2
 have hz2:=hb2.size
 have hlt2:=hs2.lt
 obtain ⟨a0,cap0,k0,k1,k2,k3,k4,k5,k6,k7,k8,k9,k10⟩:=hs2.cells
 obtain ⟨av,cv,rfl,_,_⟩:=own_slice ho2
 have HV2:=hidden (OwnV.sv ho2)
 have HVB:=hidden (fun j hj=>(ho2.lt j hj).2)
 clear ho2 hs2 hcp hf2 hb2 k0 k2 k3 k4 k5 k6 k7 k8 k9 k10
 by_cases hf0:f2=0
 ·subst hf0
  obtain ⟨hcol,hlen⟩:=HCP.out.2.1 rfl
  have HWR:=hidden (cwritten_any (HSB.out.kept HB2.out) H8.out HV2.out HVB.out hcol)
  have HCOL:=hidden hcol
  have HLEN:=hidden hlen
  clear hcol hlen
  by_cases heq:colM k l=b
  ·rw [decide_eq_true heq] at HWR
   have HTD:=hidden (HTM.out l 0 (Or.inl ⟨rfl,HIFF.out l ⟨HCOL.out,HLEN.out,heq⟩⟩))
   clear heq
   go_wp2_with fail
   refine HWR.out.mono ?_
   rintro e w3 ⟨rfl,hb3⟩
   have HO3:=hidden (own_kept HO2.out hb3)
   have HB3:=hidden (HB2.out.trans (hb3.mono hz2))
   have hk1':=(HS2.out.kept hb3 hlt2).cells
   obtain ⟨a3,cap3,q0,q1,q2,q3,q4,q5,q6,q7,q8,q9,q10⟩:=hk1'
   clear hb3 q0 q2 q3 q4 q5 q6 q7 q8 q9 q10 k1
   go_wp2_with fail
   go_ret2
   exact ⟨_,l,0,rfl,HO3.out,HTD.out,HB3.out⟩
  ·rw [decide_eq_false heq] at HWR
   have HTD:=hidden (HTM.out [] 40 (Or.inr ⟨by omega,er40,rfl,HNONE.out l 0 HCP.out (fun h=>heq h.2)⟩))
   clear heq
   go_wp2_with fail
   refine HWR.out.mono ?_
   rintro e w3 ⟨rfl,hb3⟩
   have HB3:=hidden (HB2.out.trans (hb3.mono hz2))
   have hz3:=hb3.size
   have HS3:=hidden (HS2.out.kept hb3 hlt2)
   clear hb3 k1
   go_wp2_with fail
   refine (crefuse_any HS3.out 40).mono ?_
   rintro e w4 ⟨rfl,hs4,hf4⟩
   rw [orf_zero] at hs4
   have HB4:=hidden (HB3.out.trans (hf4.below (Nat.le_refl _) (by omega)))
   obtain ⟨a3,cap3,q0,q1,q2,q3,q4,q5,q6,q7,q8,q9,q10⟩:=hs4.cells
   clear hs4 hf4 q0 q2 q3 q4 q5 q6 q7 q8 q9 q10
   go_wp2_with fail
   go_quiet (fail)
   go_wp2_with fail
   go_ret2
   exact ⟨_,[],40,rfl,OwnV.nil _ _,HTD.out,HB4.out.trans ⟨rfl,rfl,rfl,Nat.le_refl _,fun _ _=>rfl⟩⟩
 ·have hne:((f2:Int) != 0)=true:=by simpa using hf0
  have hne2:((f2:Int)==0)=false:=by simpa using hf0
  have HTD:=hidden (HTM.out [] f2 (Or.inr ⟨hf0,HCP.out.1,rfl,HNONE.out l f2 HCP.out (fun h=>hf0 h.1)⟩))
  clear hf0
  go_wp2_with fail
  go_quiet (fail)
  go_wp2_with fail
  go_ret2
  exact ⟨_,[],f2,rfl,OwnV.nil _ _,HTD.out,HB2.out.trans ⟨rfl,rfl,rfl,Nat.le_refl _,fun _ _=>rfl⟩⟩
theorem cread_any {w:World} {vb:Value} {b:List Nat} (hb:Sv w vb (vals .u8 b)) (h8:Bs b) (k:Nat) (n:Int) :
  Calls Tryz.prog 214 #[.int .u8 (k:Int),vb,.int .i64 n] w (RPost6 k b n w):=by
 by_cases hk:1<=k/\k<=3
 ·by_cases hn:0<=n/\n<=256
  ·obtain ⟨m,rfl⟩:∃ m:Nat,n=(m:Int):=⟨n.toNat,by omega⟩
   exact cread_main hb h8 k m hk (by omega)
  ·have HOF:=hidden (ofColumns_any k)
   rw [decide_eq_true hk] at HOF
   have HTD:Hid (Told6 k b n [] 1):=hidden (by unfold Told6;rw [if_pos hk,if_neg hn];exact ⟨rfl,rfl⟩)
   obtain ⟨a,cap,rfl,_,_⟩:=hb.form1
   clear hb h8 hk
   by_cases h0:n<0
   ·clear hn
    go_enter Tryz.func214,Tryz.ntmps214
    go_wp2_with fail
    refine (HOF.out _).mono ?_
    rintro e w1 ⟨rfl,rfl⟩
    go_wp2_with fail
    go_ret2
    exact ⟨_,[],1,rfl,OwnV.nil _ _,HTD.out,Below.refl _ _⟩
   ·have h1:n > 256:=by omega
    clear hn
    go_enter Tryz.func214,Tryz.ntmps214
    go_wp2_with fail
    refine (HOF.out _).mono ?_
    rintro e w1 ⟨rfl,rfl⟩
    go_wp2_with fail
    go_ret2
    exact ⟨_,[],1,rfl,OwnV.nil _ _,HTD.out,Below.refl _ _⟩
 ·have HOF:=hidden (ofColumns_any k)
  rw [decide_eq_false hk] at HOF
  have HTD:Hid (Told6 k b n [] 10):=hidden (by unfold Told6;rw [if_neg hk];exact ⟨rfl,rfl⟩)
  obtain ⟨a,cap,rfl,_,_⟩:=hb.form1
  clear hb h8 hk
  go_enter Tryz.func214,Tryz.ntmps214
  go_wp2_with fail
  refine (HOF.out _).mono ?_
  rintro e w1 ⟨rfl,rfl⟩
  go_wp2_with fail
  go_ret2
  exact ⟨_,[],10,rfl,OwnV.nil _ _,HTD.out,Below.refl _ _⟩
end Go.Proofs.YtpljdjmpamjkhaaGreatDoor
set_option linter.unusedVariables false
set_option linter.unusedSimpArgs false
set_option maxRecDepth 100000
set_option maxHeartbeats 2000000
namespace Go.Proofs.YtpljdjmpamjkhaaGreatDoor
open Go.RowKit Go.Lib
theorem vals_takeA (k:Nat) (l:List Nat):(vals .u8 l).take k=vals .u8 (l.take k):=by simp [vals,List.map_take]
theorem vals_dropA (k:Nat) (l:List Nat):(vals .u8 l).drop k=vals .u8 (l.drop k):=by simp [vals,List.map_drop]
theorem prefix_takeA (a b:List Nat) (h:b.length<=a.length):decide (a.take b.length=b)=b.isPrefixOf a:=by
 rw [Bool.eq_iff_iff,decide_eq_true_eq,List.isPrefixOf_iff_prefix]
 constructor
 ·intro e
  rw [← e]
  exact List.take_prefix _ _
 ·rintro ⟨t,rfl⟩
  exact List.take_left
theorem prefix_longA (a b:List Nat) (h:a.length<b.length):b.isPrefixOf a=false:=by
 rw [Bool.eq_false_iff,ne_eq,List.isPrefixOf_iff_prefix]
 intro e
 have:=e.length_le
 omega
theorem hasP_any {w:World} {va vb:Value} {a b:List Nat} (ha:Sv w va (vals .u8 a)) (hb:Sv w vb (vals .u8 b)) (h8:Bs a) (h9:Bs b) :
  Calls Tryz.prog 94 #[va,vb] w fun e w'=>e=.returned (.bool (b.isPrefixOf a))/\w'=w:=by
 obtain ⟨aa,ca,rfl,hc1,hc2⟩:=ha.form1
 obtain ⟨ab,cb,rfl,hc3,hc4⟩:=hb.form1
 rw [vals_length] at *
 rw [vals_length] at *
 have hc2':ca<=9223372036854775807:=by unfold maxLen at hc2;omega
 by_cases h:b.length<=a.length
 ·have hT:=ha.take (k:=b.length) (by rw [vals_length];exact h)
  rw [vals_takeA] at hT
  have HE:=hidden (equal_any hT hb (h8.take b.length) h9)
  have HP:=hidden (prefix_takeA a b h)
  have hge:(a.length:Int)>=(b.length:Int):=by omega
  have hle:b.length<=ca:=by omega
  clear ha hb h8 h9 hT
  generalize decide (a.take b.length=b)=d at *
  go_enter Tryz.func94,Tryz.ntmps94
  go_wp2_with fail
  refine HE.out.mono ?_
  rintro e w1 ⟨rfl,rfl⟩
  go_wp2_with fail
  go_ret
  rw [← HP.out]
  exact ⟨rfl,rfl⟩
 ·have hge:¬ (a.length:Int)>=(b.length:Int):=by omega
  have HP:=hidden (prefix_longA a b (by omega))
  clear ha hb h8 h9
  go_enter Tryz.func94,Tryz.ntmps94
  go_wp2_with fail
  go_ret
  rw [HP.out]
  exact ⟨rfl,rfl⟩
theorem cutP_any {w:World} {aa:Option Addr} {ca:Nat} {vb:Value} {a b:List Nat} (ha:Sv w (.slice aa a.length ca) (vals .u8 a)) (hb:Sv w vb (vals .u8 b)) (h8:Bs a) (h9:Bs b) :
  Calls Tryz.prog 52 #[.slice aa a.length ca,vb] w fun e w'=>(∃ v,e=.returned (.tuple #[v,.bool (b.isPrefixOf a)])/\Sv w' v (vals .u8 (if b.isPrefixOf a=true then a.drop b.length else a))/\(∀ p,(∀ i,(Value.slice aa a.length ca).ownBlock=some i->i<p)->∀ i,v.ownBlock=some i->i<p))/\w'=w:=by
 have HP:=hidden (hasP_any ha hb h8 h9)
 obtain ⟨ab,cb,rfl,hc3,hc4⟩:=hb.form1
 have HA:=hidden ha
 obtain ⟨a',cap',e,hc1,hc2,hn,_⟩:=ha
 simp only [Value.slice.injEq] at e
 obtain ⟨rfl,_,rfl⟩:=e
 simp only [vals_length] at *
 have hc2':ca<=9223372036854775807:=by unfold maxLen at hc2;omega
 clear hb h8 h9
 have hpl:b.isPrefixOf a=true->b.length<=a.length:=fun h=>(List.isPrefixOf_iff_prefix.1 h).length_le
 generalize b.isPrefixOf a=px at *
 cases px
 case true =>
  have hl:b.length<=a.length:=hpl rfl
  have hD:=HA.out.dropG (k:=b.length) (by rw [vals_length];exact hl)
  rw [vals_dropA,vals_length] at hD
  obtain ⟨A,hA⟩:∃ A,(if ca=b.length then aa else aa.map fun x=>x.add b.length)=A:=⟨_,rfl⟩
  have HBK:=hidden (fun (p:Nat) (hp:∀ i,(Value.slice aa a.length ca).ownBlock=some i->i<p)=>dropG_block (m:=a.length-b.length) (k:=b.length) (c:=ca) hp)
  rw [hA] at hD HBK
  have HD:=hidden hD
  have HAA:=hidden hA
  have hle:(b.length:Int)<=(ca:Int):=by omega
  have hle2:(b.length:Int)<=(a.length:Int):=by omega
  clear hD HA hpl
  go_enter Tryz.func52,Tryz.ntmps52
  go_wp2_with fail
  refine HP.out.mono ?_
  rintro e w1 ⟨rfl,rfl⟩
  go_wp2_with fail
  go_ret2
  exact ⟨⟨_,rfl,HD.out,HBK.out⟩,rfl⟩
 case false =>
  clear hpl
  go_enter Tryz.func52,Tryz.ntmps52
  go_wp2_with fail
  refine HP.out.mono ?_
  rintro e w1 ⟨rfl,rfl⟩
  go_wp2_with fail
  go_ret2
  exact ⟨⟨_,rfl,by simpa using HA.out,fun p hp=>hp⟩,rfl⟩
end Go.Proofs.YtpljdjmpamjkhaaGreatDoor
set_option linter.unusedVariables false
set_option linter.unusedSimpArgs false
set_option maxRecDepth 100000
set_option maxHeartbeats 4000000
namespace Go.Proofs.YtpljdjmpamjkhaaGreatDoor
open Go.RowKit Go.Lib
theorem leN_snoc:∀ (a:List Nat) (x:Nat),leN (a++[x])=leN a+x*2 ^ (8*a.length)
 | [],x=>by simp [leN]
 | y::a,x=>by
  have h:=leN_snoc a x
  have e:2 ^ (8*(y::a).length)=256*2 ^ (8*a.length):=by
   rw [List.length_cons,Nat.mul_add,Nat.pow_add,Nat.mul_comm]
  show y+256*leN (a++[x])=(y+256*leN a)+_
  rw [h,e,Nat.mul_add,Nat.mul_left_comm x 256]
  omega
theorem join8 {n c k:Nat} (hk:k<=3) (hn:n<2 ^ (8*k)) (hc:c<256):bits .or .u64 (n:Int) (IntKind.u64.wrap ((c:Int)*2 ^ (8*k)))=((n+c*2 ^ (8*k):Nat):Int):=by
 have h1:2 ^ (8*k)<=2 ^ 24:=Nat.pow_le_pow_right (by omega) (by omega)
 have h2:c*2 ^ (8*k)<=255*2 ^ 24:=Nat.mul_le_mul (by omega) h1
 have e:(c:Int)*2 ^ (8*k)=((c*2 ^ (8*k):Nat):Int):=by simp
 rw [e,wraps_u64 _ (by omega) (by omega)]
 have e2:bits .or .u64 (n:Int) ((c*2 ^ (8*k):Nat):Int)=(n:Int)+((c*2 ^ (8*k):Nat):Int):=by
  apply bits_join_low .u64 64 (by decide) wraps_u64 (8*k)
  ·omega
  ·have:(n:Int)<((2 ^ (8*k):Nat):Int):=by omega
   simpa using this
  ·omega
  ·omega
  ·simp
  ·omega
 rw [e2]
 omega
theorem number10_any {w:World} {v:Value} {l:List Nat} (hs:Sv w v (vals .u8 l)) (h8:Bs l) (hl:l.length<=4) :
  Calls Tryz.prog 138 #[v] w fun e w'=>e=.returned (.int .u64 ((leN l:Nat):Int))/\w'=w:=by
 have HS:=hidden hs
 obtain ⟨a,cap,rfl,hc1,hc2⟩:=hs.form1
 simp only [vals_length] at *
 have H8:=hidden h8
 clear hs h8
 go_enter Tryz.func138,Tryz.ntmps138
 go_wp2_with fail
 go_loopw [3,8] (fun n i w'=>w'=w/\∃ k:Nat,k<=l.length/\i=.int .i64 (k:Int)/\n=.int .u64 ((leN (l.take k):Nat):Int)) (fun _ i _=>l.length-(intOf i).toNat)
 case atStart=>exact ⟨rfl,0,by omega,rfl,rfl⟩
 case round =>
  obtain ⟨rfl,k,hk,rfl,rfl⟩:=hrel
  by_cases hlt:k<l.length
  ·obtain ⟨b,off,rfl,hb,hck⟩:=HS.out.at1 (vals_get hlt)
   have hlt':(k:Int)<(l.length:Int):=by omega
   have hle:=leN_lt (b:=l.take k) (fun x hx=>H8.out x (List.mem_of_mem_take hx))
   rw [List.length_take,Nat.min_eq_left (by omega)] at hle
   have hcl:=H8.out _ (List.getElem_mem hlt)
   have hj:=join8 (show k<=3 by omega) hle hcl
   have HSN:Hid (leN (l.take (k+1))=leN (l.take k)+l[k]*2 ^ (8*k)):=hidden (by
    rw [List.take_succ_eq_append_getElem hlt,leN_snoc,List.length_take,Nat.min_eq_left (by omega)])
   have h9:IntKind.i64.wrap (8*(k:Int))=8*(k:Int):=by rw [IntKind.wrap_i64];omega
   have h10:(8*(k:Int)).toNat=8*k:=by omega
   have h11:IntKind.u64.wrap ((l[k]:Nat):Int)=((l[k]:Nat):Int):=by rw [IntKind.wrap_u64];omega
   generalize l[k]=c at *
   generalize leN (l.take k)=n at *
   go_wp2_with fail
   go_roundw
   case rel=>exact ⟨trivial,k+1,by omega,by go_num,by rw [HSN.out];simp⟩
   case measure=>simp [intOf];omega
  ·obtain rfl:k=l.length:=by omega
   have hge:¬ ((l.length:Nat):Int)<(l.length:Int):=by omega
   go_wp2_with fail
   go_ret
   exact ⟨rfl,rfl⟩
def spl (b:List Nat):Option (List Nat×List Nat) :=
 if b.length<4 then none else if b.length-4<leN (b.drop (b.length-4)) then none
 else some (b.take (b.length-4-leN (b.drop (b.length-4))),(b.take (b.length-4)).drop (b.length-4-leN (b.drop (b.length-4))))
def Within (p:Nat) (v:Value):Prop:=∀ i,v.ownBlock=some i->i<p
theorem split_any {w:World} {v:Value} {b:List Nat} (hs:Sv w v (vals .u8 b)) (h8:Bs b) (hl:b.length<=100000000) (hw:Within w.heap.size v) :
  Calls Tryz.prog 95 #[v] w fun e w'=>(∃ v1 v2,e=.returned (.tuple #[v1,v2,.bool (spl b).isSome])/\(∀ x y,spl b=some (x,y)->Sv w' v1 (vals .u8 x)/\Sv w' v2 (vals .u8 y)/\Within w.heap.size v1/\Within w.heap.size v2))/\Below w.heap.size w w':=by
 have HS:=hidden hs
 obtain ⟨a',cap,e,hc1,hc2,hn,hx⟩:=hs
 simp only [vals_length] at *
 subst e
 have hc2':cap<=9223372036854775807:=by unfold maxLen at hc2;omega
 have hm2:b.length<=9223372036854775807:=by omega
 by_cases h4:b.length<4
 ·have HP:Hid (spl b=none):=hidden (if_pos h4)
  have hlt:(b.length:Int)-4<0:=by omega
  clear h8
  go_enter Tryz.func95,Tryz.ntmps95
  go_wp2_with fail
  go_ret3
  rw [HP.out]
  exact ⟨⟨_,_,rfl,fun x y h=>by cases h⟩,Below.refl _ _⟩
 ·obtain ⟨n,hbn⟩:∃ n,b.length=n+4:=⟨b.length-4,by omega⟩
  have hD:=HS.out.dropG (k:=n) (by rw [vals_length];omega)
  rw [vals_dropA,vals_length,hbn] at hD
  obtain ⟨A,hA⟩:∃ A,(if cap=n then a' else a'.map fun x=>x.add n)=A:=⟨_,rfl⟩
  rw [hA,show n+4-n=4 by omega] at hD
  have hln:leN (b.drop n)<4294967296:=by
   have:=leN_lt (b:=b.drop n) (fun x hx=>h8 x (List.mem_of_mem_drop hx))
   rw [List.length_drop,hbn,show n+4-n=4 by omega] at this
   simpa using this
  have HNU:=hidden (number10_any hD (h8.drop n) (by rw [List.length_drop,hbn];omega))
  have HP:Hid (spl b=if n<leN (b.drop n) then none else some (b.take (n-leN (b.drop n)),(b.take n).drop (n-leN (b.drop n)))):=hidden (by
   unfold spl
   rw [if_neg h4,show b.length-4=n by omega])
  have hle:(b.length:Int)-4=(n:Int):=by omega
  have hn0:¬ (n:Int)<0:=by omega
  have hn1:(n:Int)<=(cap:Int):=by omega
  have hn2:(n:Int)<=(b.length:Int):=by omega
  have HAA:=hidden hA
  have HBN:=hidden hbn
  rw [hbn] at hc1 hw ⊢
  clear hbn
  have hle':((n+4:Nat):Int)-4=(n:Int):=by omega
  clear hD h8 hle hx
  generalize hN:leN (b.drop n)=N at *
  clear hN
  go_enter Tryz.func95,Tryz.ntmps95
  have hBE:∀ p,Within p (.slice a' (n+4) cap)->∀ m k,Within p (.slice (if cap=k then a' else a'.map fun x=>x.add k) m (cap-k)):=fun p hp m k=>dropG_block (m:=m) (k:=k) (c:=cap) hp
  go_wp2_with fail
  refine HNU.out.mono ?_
  rintro e w1 ⟨rfl,rfl⟩
  by_cases hgt:n<N
  ·have hgt':(N:Int) > (n:Int):=by omega
   have HP2:Hid (spl b=none):=hidden (by rw [HP.out,if_pos hgt])
   clear HP
   go_wp2_with fail
   go_ret3
   rw [HP2.out]
   exact ⟨⟨_,_,rfl,fun x y h=>by cases h⟩,Below.refl _ _⟩
  ·have hgt':¬ (N:Int) > (n:Int):=by omega
   obtain ⟨m,hm⟩:∃ m,n=m+N:=⟨n-N,by omega⟩
   have hmn:n-N=m:=by omega
   have HP2:Hid (spl b=some (b.take m,(b.take n).drop m)):=hidden (by rw [HP.out,if_neg hgt,hmn])
   have hT:=HS.out.take (k:=m) (by rw [vals_length,HBN.out];omega)
   have hD1:=HS.out.take (k:=n) (by rw [vals_length,HBN.out];omega)
   have hlt1:(vals .u8 b).length=n+4:=by rw [vals_length];exact HBN.out
   have hD2:=hD1.dropG (k:=m) (by rw [List.length_take,hlt1];omega)
   rw [vals_takeA] at hT
   rw [vals_takeA,vals_dropA] at hD2
   obtain ⟨A2,hA2⟩:∃ A2,(if cap=m then a' else a'.map fun x=>x.add m)=A2:=⟨_,rfl⟩
   have hle3:(vals .u8 (b.take n)).length-m=N:=by rw [vals_length,List.length_take,HBN.out];omega
   have hB2:=hBE _ hw N m
   have hcm:¬ cap=m:=by omega
   rw [if_neg hcm] at hA2 hD2 hB2
   clear hA2
   rw [hle3] at hD2
   have hB1:Within w1.heap.size (.slice a' m cap):=fun i hi=>hw i (by cases a' with | none=>cases hi | some x=>exact hi)
   have HT:=hidden hT
   have HD2:=hidden hD2
   have HB1:=hidden hB1
   have HB2:=hidden hB2
   have hk1:(n:Int)-(N:Int)=(m:Int):=by omega
   have hk2:(0:Int)<=(m:Int):=by omega
   have hk3:(m:Int)<=(cap:Int):=by omega
   have hk4:(m:Int)<=(n:Int):=by omega
   have hk5:(n:Int)<=(cap:Int):=by omega
   have hk6:(m:Int).toNat=m:=by omega
   have hk7:(n:Int).toNat=n:=by omega
   have hk8:n-m=N:=by omega
   have hk9:IntKind.i64.wrap (N:Int)=(N:Int):=by rw [IntKind.wrap_i64];omega
   clear hT hD1 hD2 HP hB1 hB2 hBE hmn hlt1 hle3 hw hm
   go_wp2_with fail
   go_quiet (fail)
   go_wp2_with fail
   go_ret3
   rw [HP2.out]
   refine ⟨⟨_,_,rfl,fun x y h=>?_⟩,below_drewN (Below.refl _ _) _⟩
   simp only [Option.some.injEq,Prod.mk.injEq] at h
   obtain ⟨rfl,rfl⟩:=h
   exact ⟨HT.out.kept (below_drewN (Below.refl _ _) _),HD2.out.kept (below_drewN (Below.refl _ _) _),HB1.out,HB2.out⟩
end Go.Proofs.YtpljdjmpamjkhaaGreatDoor
