/- Files of rows: the file of what was written; how many bytes it has. Contracts: writtenSo, Open. Contracts: Open; Rows, Schema. -/
import Derived.Test.YtpljdjmpamjkhaaGreatDoorZbm
import Derived.Test.YtpljdjmpamjkhaaGreatDoorZbg
import Derived.Test.YtpljdjmpamjkhaaGreatDoorZbp
import Derived.Test.YtpljdjmpamjkhaaGreatDoorZbe
import Derived.Lib.SlBytesConst
set_option linter.unusedVariables false
set_option linter.unusedSimpArgs false
namespace Go.Proofs.YtpljdjmpamjkhaaGreatDoor
open Go.RowKit Go.Lib
theorem uvL1 {n:Nat} (h:n<128):(uv n).length=1:=by rw [uv_small h];rfl
theorem uvL2 {n:Nat} (h:n<16384):(uv n).length<=2:=by
 rw [uv_len]
 exact uvarint_length 1 n (by omega)
theorem uvL3 {n:Nat} (h:n<2097152):(uv n).length<=3:=by
 rw [uv_len]
 exact uvarint_length 2 n (by omega)
theorem wvL2 {x:Int} (h0:0<=x) (h:x<=64):(wv x).length<=2:=by
 unfold wv
 refine uvL2 ?_
 unfold zigzag
 rw [if_pos h0]
 omega
theorem enc0_two:∀ {l:List Int},(∀ x∈l,0<=x/\x<=64)->(enc0 l).length<=2*l.length
 | [],_=>by simp [enc0]
 | x::t,h=>by
  have h1:=enc0_two (l:=t) (fun y hy=>h y (List.mem_cons_of_mem _ hy))
  have h2:=h x (List.mem_cons_self ..)
  have h3:=wvL2 h2.1 h2.2
  simp only [enc0,List.length_append,List.length_cons]
  omega
theorem by8_le (n:Nat):by8 n<=n:=by unfold by8;omega
theorem bstC_two {l:List Int} (h:∀ x∈l,0<=x/\x<=64):(bstC l).length<=2*l.length+1:=by
 have h1:=bestUp_le l 4 0 (by omega)
 have h2:=enc0_two h
 have:(encC 0 l).length=(enc0 l).length:=rfl
 unfold bstC
 omega
theorem bstC_ten {l:List Int} (h:Is l):(bstC l).length<=10*l.length+1:=by
 have h1:=bestUp_le l 4 0 (by omega)
 have h2:=(enc0_size h).1
 have:(encC 0 l).length=(enc0 l).length:=rfl
 unfold bstC
 omega
theorem words_small {l:List (List Nat)} (h:Ts l) (hm:l.length<=64):(wordsB l).length<=4+66*l.length:=by
 obtain ⟨b1,_⟩:=sum_sizes h
 have h1:=bstC_two (l:=sizes l) (fun x hx=>by
  obtain ⟨s,hs,rfl⟩:=List.mem_map.1 hx
  have:=(h s hs).1
  omega)
 rw [sizes_length] at h1
 have h2:=uvL2 (n:=(bstC (sizes l)).length) (by omega)
 have hp:(plain l).length<=4+66*l.length:=by
  unfold plain txts cnt
  simp only [List.length_cons,List.length_append]
  omega
 unfold wordsB
 split<;>omega
theorem head_small {l:List (Nat×Int×List Nat)} (hm:l.length<=256):(headB l).length<=1+l.length:=by
 unfold headB
 split
 ·have hl:=bits_length (there_two l) (by rw [there_length];exact hm)
  rw [there_length] at hl
  have:=by8_le l.length
  rw [List.length_cons,hl]
  omega
 ·simp
theorem colM_small {k:Nat} {l:List Cl} (h:Col k l) (hm:l.length<=64):(colM k l).length<=5+67*l.length:=by
 obtain ⟨hk,hm2,hc⟩:=h
 have ho:=ownC_length l
 have hh:=head_small hm2
 unfold colM
 rw [List.length_append]
 obtain rfl | rfl | rfl:k=1∨k=2∨k=3:=by omega
 ·have b1:=bstC_ten (ownC_ints hc).1
  rw [List.length_map] at b1
  rw [tail_1]
  omega
 ·have hl:=bits_length (ownC_truths hc).1 (by rw [List.length_map];omega)
  rw [List.length_map] at hl
  have:=by8_le (ownC l).length
  rw [tail_2,hl]
  omega
 ·have hw:=words_small (ownC_words hc).1 (by rw [List.length_map];omega)
  rw [List.length_map] at hw
  rw [tail_3]
  omega
/-! Statistics. -/
theorem first_16 {l:List UInt8} (hc:clean l=true):(firstL l 4).length<=16:=by
 unfold firstL
 rw [clean_V hc,List.length_take]
 have:=offs_le4 (rs:=runes l) (4:Int).toNat
 have h4:(4:Int).toNat=4:=rfl
 omega
theorem flat_16:∀ rs:List Nat,(flat rs).length<=4*rs.length
 | []=>by simp [flat]
 | r::t=>by
  have:=flat_16 t
  have:=encL_pos r
  unfold flat at *
  simp only [List.flatMap_cons,List.length_append,List.length_cons]
  omega
theorem above_16 {l a:List UInt8} (h:aboveL l 4=some a) (hl:l.length<=64):a.length<=16:=by
 have h0:=h
 rw [above_eq] at h
 unfold refAboveL at h
 split at h
 ·next hc =>
  have hv:=clean_V hc
  split at h
  ·next h4 =>
   obtain rfl:=Option.some.inj h
   have e:=(flat_of_clean _ l (Nat.le_refl _) hc).1
   have h16:=flat_16 (runes l)
   rw [hv,List.length_map] at h4
   have e2:=congrArg List.length e
   omega
  ·split at h
   ·cases h
   ·unfold upL at h
    cases hg:lastG (V l) (4:Int).toNat with
    | none=>rw [hg] at h;cases h
    | some i =>
     rw [hg] at h
     have hi:=(lastG_lt hg).1
     simp only [Option.map_some,Option.some.injEq] at h
     subst h
     have:=encL_pos (nx ((V l).getD i (0,0)).1)
     have:=offs_le4 (rs:=runes l) i
     rw [← hv] at this
     have h4:(4:Int).toNat=4:=rfl
     simp only [List.length_append,List.length_take]
     omega
 ·cases h
theorem low_16 {x:Cl} (hf:Fine x) {cl:Bool} (hc:cl=true->cleanC x=true):(lowM x cl).2.2.length<=16:=by
 unfold lowM
 by_cases h:x.1=3/\cl=false
 ·rw [if_pos h];simp
 ·rw [if_neg h]
  show (nb _).length<=16
  rw [nb_length]
  cases cl with
  | true=>exact first_16 (hc rfl)
  | false =>
   have hx:x.1≠3:=fun e=>h ⟨e,rfl⟩
   have h2:x.2.2=[]:=by
    rcases hf with rfl | ⟨n,rfl,_⟩ | ⟨n,rfl,_⟩ | ⟨s,rfl,_,_⟩
    ·rfl
    ·rfl
    ·rfl
    ·exact absurd rfl hx
   have:=firstL_len (lb (bytesT x.2.2)) 4
   rw [lb_size,bytesT_size,h2] at this
   rw [h2]
   simp only [List.length_nil] at this
   omega
theorem high_16 {x:Cl} (hf:Fine x) {cl:Bool}:(highM x cl).1.2.2.length<=16:=by
 unfold highM
 by_cases h:x.1=3
 ·rw [if_pos h]
  cases ha:aboveL (lb (bytesT x.2.2)) 4 with
  | none=>exact Nat.zero_le _
  | some a =>
   cases cl
   ·exact Nat.zero_le _
   ·show (nb a).length<=16
    rw [nb_length]
    refine above_16 ha ?_
    rw [lb_size]
    exact hf.short
 ·rw [if_neg h]
  show x.2.2.length<=16
  rcases hf with rfl | ⟨n,rfl,_⟩ | ⟨n,rfl,_⟩ | ⟨s,rfl,_,_⟩
  ·exact Nat.zero_le _
  ·exact Nat.zero_le _
  ·exact Nat.zero_le _
  ·exact absurd rfl h
theorem statM_16 {cs:List Cl} (hf:∀ c∈cs,Fine c):(statM cs).lo.2.2.length<=16/\(statM cs).hi.2.2.length<=16:=by
 have hfn:∀ c∈nonN cs,Fine c:=fun c hc=>hf c (by unfold nonN at hc;exact (List.mem_filter.1 hc).1)
 unfold statM
 cases hn:nonN cs with
 | nil=>exact ⟨Nat.zero_le _,Nat.zero_le _⟩
 | cons y r =>
  rw [hn] at hfn
  have hy:=hfn y (by simp)
  have hr:∀ c∈r,Fine c:=fun c hc=>hfn c (by simp [hc])
  refine ⟨low_16 (minC_mem hy hr) (fun hall=>?_),high_16 (maxC_mem hy hr)⟩
  rw [List.all_eq_true] at hall
  exact minC_mem (P:=fun c=>cleanC c=true) (hall y (by simp)) (fun c hc=>hall c (by simp [hc]))
theorem bndB_16 {c:Cl} (h:Fine c) (h16:c.2.2.length<=16):(bndB c).length<=17:=by
 unfold bndB
 split
 ·rcases h with rfl | ⟨n,rfl,h1⟩ | ⟨n,rfl,h1⟩ | ⟨s,rfl,h1,h2⟩<;>first | (have:=wv_ten h1;unfold wv at this;simp only;omega) | (simp_all [nul])
 ·split
  ·simp
  ·rw [List.length_append,uvL1 (by omega)]
   omega
theorem statB_16 {cs:List Cl} (hf:∀ c∈cs,Fine c) (hl:cs.length<=64):(statB (statM cs)).length<=37:=by
 obtain ⟨a1,a2⟩:=statM_fine hf
 obtain ⟨b1,b2⟩:=statM_16 hf
 have c1:=bndB_16 a1 b1
 have c2:=bndB_16 a2 b2
 obtain ⟨n,hn,hn2⟩:=statM_nulls cs
 have hu:=uvL1 (n:=n) (by omega)
 unfold statB
 rw [hn,Int.toNat_natCast]
 simp only [List.length_append,List.length_singleton]
 split<;>split<;>(try simp only [List.length_nil])<;>omega
theorem bdyK_small {fs:List Fd} {p:List Row} (hl:p.length<=64) (hcol:∀ k,k<fs.length->Col (kndA fs k) (colA p k)):∀ {k:Nat},k<=fs.length->(bdyK fs p k).length<=(5+67*p.length)*k:=by
 intro k
 induction k with
 | zero=>exact fun _=>by simp [bdyK]
 | succ k ih =>
  intro hk
  have h1:=ih (by omega)
  have h2:=colM_small (hcol k (by omega)) (by rw [colA_length];exact hl)
  rw [colA_length] at h2
  rw [bdyK_succ,List.length_append,Nat.mul_succ]
  omega
theorem ftK_small {fs:List Fd} {p:List Row} (h:FitA fs p) (hl:p.length<=64) (hcol:∀ k,k<fs.length->Col (kndA fs k) (colA p k)):∀ {k:Nat},k<=fs.length->(ftK fs p k).length<=40*k:=by
 intro k
 induction k with
 | zero=>exact fun _=>by simp [ftK]
 | succ k ih =>
  intro hk
  have h1:=ih (by omega)
  have h2:=(col_size (hcol k (by omega))).1
  have h3:=statB_16 (colA_fine h k) (by rw [colA_length];exact hl)
  have h4:=uvL3 (n:=(colM (kndA fs k) (colA p k)).length) (by omega)
  rw [ftK_succ]
  simp only [List.length_append]
  omega
theorem bdyJ_small {fs:List Fd} {rs:List Row} {g:Nat} (hfl:fs.length<=8) (hg2:g<=64) (hk:∀ f∈fs,1<=f.2.2.1/\f.2.2.1<=3) (hfit:FitA fs rs):∀ j,(bdyJ fs g rs j).length<=40*j+536*min (j*g) rs.length
 | 0=>by simp [bdyJ]
 | j+1=>by
  have h0:=bdyJ_small hfl hg2 hk hfit j
  have hpl:(prt g rs j).length<=64:=by rw [prt_length];omega
  have h1:=bdyK_small hpl (fun k hk2=>fits_col (hfit.part g j) hk (by omega) hk2) (Nat.le_refl _)
  have h2:(5+67*(prt g rs j).length)*fs.length<=(5+67*(prt g rs j).length)*8:=Nat.mul_le_mul_left _ hfl
  rw [prt_length] at h1 h2
  rw [bdyJ_succ,List.length_append,Nat.add_mul,Nat.one_mul]
  omega
theorem ftJ_small {fs:List Fd} {rs:List Row} {g:Nat} (hfl:fs.length<=8) (hg2:g<=64) (hk:∀ f∈fs,1<=f.2.2.1/\f.2.2.1<=3) (hfit:FitA fs rs):∀ j,(ftJ fs g rs j).length<=320*j
 | 0=>by simp [ftJ]
 | j+1=>by
  have h0:=ftJ_small hfl hg2 hk hfit j
  have hpl:(prt g rs j).length<=64:=by rw [prt_length];omega
  have h1:=ftK_small (hfit.part g j) hpl (fun k hk2=>fits_col (hfit.part g j) hk (by omega) hk2) (Nat.le_refl _)
  rw [ftJ_succ,List.length_append]
  omega
theorem text_small {id:Nat} {fs:List Fd} {rs:List Row} {g:Nat} (ho:∀ f∈fs,Okf f) (hid:id<4294967296) (hc:chk id fs=0) (hrl:rs.length<=60) (hg1:1<=g) (hg2:g<=64) (hfit:FitA fs rs):(sealM (textM id fs rs g)).length<=65536:=by
 obtain ⟨hz,hfl,_⟩:=chk_szs hc
 have hk:=chk_kinds hc
 have h1:=packL_take_len ho (by omega) hz fs.length
 rw [List.take_length] at h1
 have h2:=uv_le id (by omega)
 have h3:=uv_le fs.length (by omega)
 have h4:=uv_le rs.length (by omega)
 have h5:=uv_le g (by omega)
 have hn:nps g rs.length<=60:=by
  rcases Nat.lt_or_ge 60 (nps g rs.length) with h | h
  ·have:=(nps_le (j:=60) (show 0<g by omega)).1 h
   have:60*1<=60*g:=Nat.mul_le_mul_left _ hg1
   omega
  ·exact h
 have h6:=bdyJ_small hfl hg2 hk hfit (nps g rs.length)
 have h7:=ftJ_small hfl hg2 hk hfit (nps g rs.length)
 have h8:(bdyJ fs g rs (nps g rs.length)).length<=34560:=by
  have:=Nat.min_le_right (nps g rs.length*g) rs.length
  omega
 unfold sealM textM innM footM packM
 simp only [List.length_append,List.length_cons,List.length_nil,le4]
 omega
/-! What was written is opened. -/
theorem fitE_of {fs:List Fd}:∀ {rs:List Row},(∀ r∈rs,fitM fs r=0)->fitE fs rs=0
 | [],_=>rfl
 | x::t,h=>by
  unfold fitE
  rw [if_pos (h x (List.mem_cons_self ..))]
  exact fitE_of fun r hr=>h r (List.mem_cons_of_mem _ hr)
theorem faultW_good {id:Nat} {fs:List Fd} {rs:List Row} {g:Nat} (hc:chk id fs=0) (hg1:1<=g) (hg2:g<=64) (hl:rs.length<=256) (hf:FitA fs rs):faultW id fs rs (g:Int)=0:=by
 unfold faultW
 rw [if_neg (by omega),if_neg (by omega),if_neg (by omega)]
 exact fitE_of fun r hr=>(hf r hr).1
theorem writeM_small {id:Nat} {fs:List Fd} {rs:List Row} {g:Nat} (ho:∀ f∈fs,Okf f) (hid:id<4294967296) (hc:chk id fs=0) (hl:rs.length<=60) (hg1:1<=g) (hg2:g<=64) (hf:FitA fs rs):writeM id fs rs (g:Int)=(sealM (textM id fs rs g),0):=by
 have h1:=faultW_good (g:=g) hc hg1 hg2 (show rs.length<=256 by omega) hf
 have h2:=text_small ho hid hc hl hg1 hg2 hf
 unfold writeM
 rw [h1,if_neg (by simp),Int.toNat_natCast,if_neg (by omega)]
theorem open_written {id:Nat} {fs:List Fd} {rs:List Row} {g:Nat} {b:List Nat} (ho:∀ f∈fs,Okf f) (hid:id<4294967296) (hfi:∀ r∈rs,∀ c∈r,Fine c) (h:writeM id fs rs (g:Int)=(b,0)) :
  openF b=.ok (id,fs,g,(List.range (nps g rs.length)).map fun i=>grp fs (prt g rs i)):=by
 have hw:=h
 unfold writeM at h
 by_cases h0:faultW id fs rs (g:Int)≠0
 ·rw [if_pos h0] at h
  exact absurd (Prod.mk.inj h).2 h0
 rw [if_neg h0] at h
 obtain ⟨hc,⟨hg1,hg2⟩,hl,hfe⟩:=faultW_zero (Decidable.not_not.1 h0)
 rw [Int.toNat_natCast] at h
 by_cases hz:65536<(sealM (textM id fs rs g)).length
 ·rw [if_pos hz] at h
  cases (Prod.mk.inj h).2
 rw [if_neg hz] at h
 obtain ⟨rfl,_⟩:=Prod.mk.inj h
 have hf:FitA fs rs:=fun r hr=>⟨fitE_all hfe r hr,hfi r hr⟩
 have hsz:(footM id fs rs g).length<4294967296:=by
  have:=(foot_len (g:=g) ho hid hc hl (by omega) (by omega) hf).1
  omega
 unfold openF
 rw [openM_seal]
 simp only
 have ht:(textM id fs rs g).take 3=[67,70,49]:=rfl
 have hd:(textM id fs rs g).drop 3=innM id fs rs g:=rfl
 rw [if_pos ht,hd,readF_good hid ho hc hf hl (by omega) (by omega) hsz]
 simp only
 rw [allR_grp fs (by omega) rs,if_pos hw]
end Go.Proofs.YtpljdjmpamjkhaaGreatDoor
set_option linter.unusedVariables false
set_option linter.unusedSimpArgs false
set_option maxRecDepth 100000
set_option maxHeartbeats 4000000
namespace Go.Proofs.YtpljdjmpamjkhaaGreatDoor
open Go.RowKit Go.Lib
theorem so10_any {w:World} (ht:Tab w) {v fv:Value} {b:List Nat} {B fp id:Nat} {fs:List Fd} {gs:List Gr} {g:Nat} (hs:Sv w v (vals .u8 b)) (h8:Bs b) (h:Fil w B fp id fv gs) (hf:Sf w fv fs) (ho:∀ f∈fs,Okf f) (hid:id<4294967296)
  (hr:∀ r∈allR gs,r.length<=1000/\∀ c∈r,Fine c) (htot:(allR gs).length<=1000) :
  Calls Tryz.prog 54 #[v,.pointer (some ⟨fp,0,none⟩),.int .i64 (g:Int)] w fun e w'=>e=.returned (.bool (decide (writeM id fs (allR gs) (g:Int)=(b,0))))/\Below w.heap.size w w':=by
 have HT:=hidden ht
 have HS:=hidden hs
 have HF:=hidden hf
 have h':=h
 obtain ⟨gv,xs,hblk,hB,_,_⟩:=h'
 have hfp:=(Array.getElem?_eq_some_iff.1 hblk).1
 obtain ⟨fa,fc,rfl,_,_⟩:=hf.form
 obtain ⟨ba,bc,rfl,_,_⟩:=hs.form1
 rw [vals_length] at *
 have HT2:Hid (∀ U,Below w.heap.size w U->U.cell? ⟨fp,0,none⟩=some (.int .u32 (id:Int))/\U.cell? ⟨fp,1,none⟩=some (.slice fa fs.length fc)):=hidden (fun U hU=>by
  have hh:=(hU.block fp hfp).trans hblk
  constructor<;>(rw [cell_block hh];rfl))
 have HA:Hid (∀ U,Below w.heap.size w U->Calls Tryz.prog 23 #[.pointer (some ⟨fp,0,none⟩)] U fun e w'=>∃ a c,e=.returned (.slice a (allR gs).length c)/\Rv w' (.slice a (allR gs).length c) (allR gs)/\Below w.heap.size w w'/\w'.cell? ⟨fp,0,none⟩=some (.int .u32 (id:Int))/\w'.cell? ⟨fp,1,none⟩=some (.slice fa fs.length fc)):=hidden (fun U hU=>by
  refine (all10_any (h.kept hU) (fun r hh=>(hr r hh).1) (by omega)).mono ?_
  rintro e w' ⟨⟨v,l,rfl,how,hsn⟩,hb⟩
  have hb2:=below_then hU hb
  have hrv:=how.rv
  rw [hsn] at hrv
  obtain ⟨a,c,rfl,_⟩:=hrv.form
  exact ⟨a,c,rfl,hrv,hb2,HT2.out _ hb2⟩)
 have HW:Hid (∀ U ra rc,Below w.heap.size w U->Rv U (.slice ra (allR gs).length rc) (allR gs)->Calls Tryz.prog 12 #[.agg #[.int .u32 (id:Int),.slice fa fs.length fc],.slice ra (allR gs).length rc,.int .i64 (g:Int)] U fun e w'=>∃ a c,e=.returned (.tuple #[.slice a (writeM id fs (allR gs) (g:Int)).1.length c,.int .i64 ((writeM id fs (allR gs) (g:Int)).2:Int)])/\Sv w' (.slice a (writeM id fs (allR gs) (g:Int)).1.length c) (vals .u8 (writeM id fs (allR gs) (g:Int)).1)/\Below w.heap.size w w'):=hidden (fun U ra rc hU hrv=>by
  refine (write10_any (HT.out.kept hU) (HF.out.kept hU) hrv ho hid (fun r hh=>(hr r hh).2) (g:Int)).mono ?_
  rintro e w' ⟨⟨v,rfl,how⟩,hb⟩
  have hsv:=how.sv
  obtain ⟨a,c,rfl,_,_⟩:=hsv.form1
  rw [vals_length] at *
  exact ⟨a,c,rfl,hsv,below_then hU hb⟩)
 have HBS:Hid (Bs (writeM id fs (allR gs) (g:Int)).1):=hidden (by
  unfold writeM
  split
  ·exact fun x hx=>by simp at hx
  ·next h0 =>
   split
   ·exact fun x hx=>by simp at hx
   ·obtain ⟨hc,⟨hg1,hg2⟩,hl,hfe⟩:=faultW_zero (Decidable.not_not.1 h0)
    rw [Int.toNat_natCast]
    exact (text_len ho hid hc hl (by omega) (by omega) (fun r hh=>⟨fitE_all hfe r hh,(hr r hh).2⟩)).2.seal)
 obtain ⟨WM,hWM⟩:∃ WM,writeM id fs (allR gs) (g:Int)=WM:=⟨_,rfl⟩
 rw [hWM] at HW HBS ⊢
 obtain ⟨D,hD⟩:∃ D,decide (WM=(b,0))=D:=⟨_,rfl⟩
 rw [hD]
 obtain ⟨wb,we⟩:=WM
 simp only at HW HBS
 have HD:=hidden hD
 clear hD
 have HB8:=hidden h8
 clear hs hf h hblk ho hr h8 hWM
 obtain ⟨c0,c1⟩:=HT2.out w (Below.refl _ _)
 generalize (allR gs).length=n at *
 go_enter Tryz.func54,Tryz.ntmps54
 go_wp2_with fail
 refine wp_region_noPanic ?_
 go_region_law (first
  | (go_simp;go_at_call 23;refine (HA.out _ ?_).mono ?_;exact below_drewN (Below.refl w.heap.size w) _;rintro e w1 ⟨ra,rc,rfl,hrv1,hb1,d0,d1⟩;have HRV1:=hidden hrv1;have HB1:=hidden hb1;clear hrv1 hb1;dsimp only)
  | (go_simp;go_at_call 12;refine (HW.out _ _ _ ?_ ?_).mono ?_;(first | exact HB1.out | exact below_drewN HB1.out _);(first | exact HRV1.out | exact HRV1.out.kept (below_drewN (Below.refl w1.heap.size w1) _));rintro e w2 ⟨a2,cc2,rfl,hs2,hb2⟩;have HS2:=hidden hs2;have HB2:=hidden hb2;clear hs2 hb2;dsimp only)
  | fail)
 all_goals refine NoPanic.normal ?_
 all_goals
  by_cases he:we=0
  ·have hez:(((we:Nat):Int)==0)=true:=by rw [he];rfl
   have HEQ:=hidden (equal_any HS2.out (HS.out.kept HB2.out) HBS.out HB8.out)
   have HD2:Hid (decide (wb=b)=D):=hidden (by
    rw [← HD.out,he]
    by_cases hbb:wb=b
    ·rw [hbb];simp
    ·simp [hbb])
   rw [HD2.out] at HEQ
   go_wp2_with fail
   refine HEQ.out.mono ?_
   rintro e w3 ⟨rfl,rfl⟩
   go_wp2_with fail
   go_ret
   exact ⟨rfl,HB2.out⟩
  ·have hez:(((we:Nat):Int)==0)=false:=by simpa using he
   have HD2:Hid (D=false):=hidden (by rw [← HD.out];simp [he])
   go_wp2_with fail
   go_ret
   exact ⟨by rw [HD2.out];rfl,HB2.out⟩
end Go.Proofs.YtpljdjmpamjkhaaGreatDoor
set_option linter.unusedVariables false
set_option linter.unusedSimpArgs false
set_option maxRecDepth 100000
set_option maxHeartbeats 4000000
namespace Go.Proofs.YtpljdjmpamjkhaaGreatDoor
open Go.RowKit Go.Lib
def Opn10 (w:World) (b:List Nat) (e:Ending) (w':World):Prop :=
 ((∃ c,openF b=.error c/\e=.returned (.tuple #[.pointer none,.int .i64 (c:Int)])) ∨
  ∃ id fs g gs fp fv,openF b=.ok (id,fs,g,gs)/\e=.returned (.tuple #[.pointer (some ⟨fp,0,none⟩),.int .i64 0])/\Fil w' w.heap.size fp id fv gs/\OwnF w' w.heap.size fv fs)/\Below w.heap.size w w'
theorem openM_take {b t:List Nat} (h:openM b=some t) (h8:Bs b):Bs t/\t.length<=b.length:=by
 unfold openM at h
 split at h
 ·cases h
  exact ⟨h8.take _,by rw [List.length_take];omega⟩
 ·cases h
theorem pre3 (t:List Nat):([67,70,49]:List Nat).isPrefixOf t=true↔t.take 3=[67,70,49]:=by
 constructor
 ·intro h
  obtain ⟨r,rfl⟩:=List.isPrefixOf_iff_prefix.1 h
  rfl
 ·intro h
  exact List.isPrefixOf_iff_prefix.2 ⟨t.drop 3,by rw [← h,List.take_append_drop]⟩
theorem open10_any {w:World} (ht:Tab w) {v:Value} {b:List Nat} (hs:Sv w v (vals .u8 b)) (h8:Bs b) (hl:b.length<=80000000) :
  Calls Tryz.prog 17 #[v] w (Opn10 w b):=by
 have HT:=hidden ht
 have HS:=hidden hs
 have H8:=hidden h8
 have HO:=hidden (open_any ht hs.toK h8 (by omega))
 obtain ⟨a,cap,rfl,_,_⟩:=hs.form1
 rw [vals_length] at *
 have HE:Hid (openF b=match openM b with
  | none=>.error 101
  | some t=>if t.take 3=[67,70,49] then (match readF (t.drop 3) with
    | none=>.error 102
    | some x=>if writeM x.1 x.2.1 (allR x.2.2.2) x.2.2.1=(b,0) then .ok x else .error 102) else .error 100):=hidden rfl
 have HTB:=hidden (fun t (h:openM b=some t)=>openM_take h h8)
 unfold Opn10
 generalize openF b=OF at *
 clear ht hs h8
 cases hom:openM b with
 | none =>
  rw [hom] at HE HO
  clear hom HTB
  go_enter Tryz.func17,Tryz.ntmps17
  go_wp2_with fail
  refine HO.out.mono ?_
  rintro e w1 ⟨⟨v1,rfl,o1⟩,hb1⟩
  have HB1:=hidden hb1
  clear o1 hb1
  simp only [Option.isSome]
  go_wp2_with fail
  go_ret2
  exact ⟨.inl ⟨101,HE.out,rfl⟩,HB1.out⟩
 | some t =>
  obtain ⟨t8,tl⟩:=HTB.out t hom
  rw [hom] at HE HO
  simp only at HE
  clear hom HTB
  have T8:=hidden t8
  go_enter Tryz.func17,Tryz.ntmps17
  go_wp2_with fail
  refine HO.out.mono ?_
  rintro e w1 ⟨⟨v1,rfl,o1⟩,hb1⟩
  simp only [Option.isSome,Option.getD] at *
  have HB1:=hidden hb1
  have HO1:=hidden o1
  obtain ⟨a1,cap1,rfl,_,_⟩:=own_form3 o1
  have hsv:=o1.sv
  have hlt1:=o1.lt
  have HWI:Hid (∀ i,(Value.slice a1 t.length cap1).ownBlock=some i->i<w1.heap.size):=hidden (fun i hi=>(hlt1 i hi).2)
  have hb2:=below_alloc w1 (.cells #[.int .u8 67,.int .u8 70,.int .u8 49] 5 (3,4))
  have hlit:OwnM (w1.alloc (.cells #[.int .u8 67,.int .u8 70,.int .u8 49] 5 (3,4))) w1.heap.size (.slice (some ⟨w1.heap.size,0,none⟩) 3 3) [67,70,49]:=Or.inr ⟨rfl,_,rfl,Nat.le_refl _,heap_alloc_new _ _⟩
  have HCP:=hidden (cutP_any (hsv.kept hb2) hlit.sv t8 (by intro x hx;simp at hx;omega))
  have HB2:=hidden (below_then HB1.out hb2)
  have HTB2:=hidden (HT.out.kept HB2.out)
  have HS2:=hidden (HS.out.kept HB2.out)
  have HZ2:Hid (∀ p,w1.heap.size<p->True):=hidden (fun _ _=>trivial)
  have hsz2:w1.heap.size<=(w1.alloc (.cells #[.int .u8 67,.int .u8 70,.int .u8 49] 5 (3,4))).heap.size:=hb2.size
  have HSZ2:=hidden hsz2
  have hcv:(convert 30 30 (.slice (some ⟨w1.heap.size,0,none⟩) 3 3)).run Tryz.prog (w1.alloc (.cells #[.int .u8 67,.int .u8 70,.int .u8 49] 5))=.ok (.slice (some ⟨w1.heap.size,0,none⟩) 3 3) (w1.alloc (.cells #[.int .u8 67,.int .u8 70,.int .u8 49] 5 (3,4))) :=
   run_convert_bytes_const w1 30 5 #[.int .u8 67,.int .u8 70,.int .u8 49] 3 3 Tryz.underlying30 Tryz.underlying5
  clear hb1 o1 hsv hlt1 hb2 hlit hsz2 t8 HO
  go_wp2_with fail
  refine HCP.out.mono ?_
  rintro e w3 ⟨⟨v3,rfl,hs3,hw3⟩,rfl⟩
  generalize w1.alloc (.cells #[.int .u8 67,.int .u8 70,.int .u8 49] 5 (3,4))=W2 at *
  have HW3:Hid (Within W2.heap.size v3):=hidden (hw3 W2.heap.size fun i hi=>Nat.lt_of_lt_of_le (HWI.out i hi) HSZ2.out)
  clear hw3 HCP
  by_cases hp:([67,70,49]:List Nat).isPrefixOf t=true
  ·have hp3:=(pre3 t).1 hp
   rw [if_pos hp] at hs3
   rw [if_pos hp3] at HE
   rw [hp]
   have h38:Bs (t.drop 3):=fun x hx=>T8.out x (List.mem_of_mem_drop hx)
   have h3l:(t.drop 3).length<=80000000:=by rw [List.length_drop];omega
   have HRD:=hidden (read10_any (b:=t.drop 3) hs3 h38 h3l HW3.out)
   have HWH:=hidden (fun id g fs gs (h:readF (t.drop 3)=some (id,fs,g,gs))=>readF_whole h38 h)
   obtain ⟨va3,vn3,vc3,rfl⟩:∃ a n c,v3=.slice a n c:=by
    obtain ⟨a,c,e,_⟩:=hs3.form1
    exact ⟨_,_,_,e⟩
   clear hp hp3 hs3 h38 h3l
   go_wp2_with fail
   refine HRD.out.mono ?_
   rintro e w4 ⟨⟨hrn,fp,g,rfl⟩ | ⟨id,fs,g,gs,fp,fv,hrs,rfl,hfil,how⟩,hb4⟩
   ·rw [hrn] at HE
    simp only at HE
    have HB4:=hidden (below_then HB2.out hb4)
    clear hb4 hrn HRD HWH
    go_wp2_with fail
    go_ret2
    exact ⟨.inl ⟨102,HE.out,rfl⟩,HB4.out⟩
   ·obtain ⟨hck,hid,ho,hg1,hg2,hal,hcol,_⟩:=HWH.out _ _ _ _ hrs
    rw [hrs] at HE
    simp only at HE
    have hfl:=(chk_szs hck).2.1
    have HSO:=hidden (so10_any (g:=g) (HTB2.out.kept hb4) (HS2.out.kept hb4) H8.out hfil how.sf ho hid (fun r hr=>⟨by rw [(hcol r hr).1];omega,(hcol r hr).2⟩) (by omega))
    obtain ⟨D,hD⟩:∃ D,decide (writeM id fs (allR gs) (g:Int)=(b,0))=D:=⟨_,rfl⟩
    rw [hD] at HSO
    have HD:=hidden hD
    have HB4:=hidden (below_then HB2.out hb4)
    have HFIL:=hidden hfil
    have HOW:=hidden how
    have hz4:=HB2.out.size
    clear hb4 hrs HRD HWH hck hid ho hg1 hg2 hal hcol hD hfil how hfl
    go_wp2_with fail
    refine HSO.out.mono ?_
    rintro e w5 ⟨rfl,hb5⟩
    have HB5:=hidden (below_then HB4.out hb5)
    have HF5:=hidden (HFIL.out.kept hb5)
    have HO5:=hidden (HOW.out.kept hb5)
    clear hb5 HFIL HOW HSO
    cases D with
    | true =>
     have hw:=of_decide_eq_true HD.out
     rw [if_pos hw] at HE
     clear hw HD
     go_wp2_with fail
     go_ret2
     exact ⟨.inr ⟨id,fs,g,gs,fp,fv,HE.out,rfl,HF5.out.low hz4,HO5.out.low hz4⟩,HB5.out⟩
    | false =>
     have hw:=of_decide_eq_false HD.out
     rw [if_neg hw] at HE
     clear hw HD
     go_wp2_with fail
     go_ret2
     exact ⟨.inl ⟨102,HE.out,rfl⟩,HB5.out⟩
  ·have hp2:([67,70,49]:List Nat).isPrefixOf t=false:=Bool.eq_false_iff.2 hp
   rw [if_neg (fun e=>hp ((pre3 t).2 e))] at HE
   rw [hp2]
   clear hp hp2 hs3
   go_wp2_with fail
   go_ret2
   exact ⟨.inl ⟨100,HE.out,rfl⟩,HB2.out⟩
theorem rows10_any {w:World} {B fp id:Nat} {fv:Value} {gs:List Gr} (h:Fil w B fp id fv gs) (htot:(allR gs).length<=100000) :
  Calls Tryz.prog 20 #[.pointer (some ⟨fp,0,none⟩)] w fun e w'=>e=.returned (.int .i64 ((allR gs).length:Int))/\Below w.heap.size w w':=by
 obtain ⟨gv,xs,h1,h2,h3,h4⟩:=h
 obtain ⟨ga,gc,rfl,hgc,hgm⟩:=own_form3 h3
 have c2:w.cell? ⟨fp,2,none⟩=some (.slice ga gs.length gc):=by rw [cell_block h1];rfl
 have HG:Hid (∀ k (hk:k<gs.length),∃ G R va vn vc,ga=some ⟨G,0,none⟩/\∀ W,Below w.heap.size w W->W.cell? ⟨G,k*2,none⟩=some (.slice (some ⟨R,0,none⟩) gs[k].1.length gs[k].1.length)/\W.cell? ⟨G,k*2+1,none⟩=some (.slice va vn vc)):=hidden (fun k hk=>by
  obtain ⟨a,b,e1,e2,e3⟩:=h4 k hk
  obtain ⟨R,rfl,g1,g2,⟨va,vn,vc,rfl⟩,g4⟩:=e3.rows
  obtain ⟨G,rfl,_,hG,hc1⟩:=own_cell3 h3 e1
  obtain ⟨_,e,_,_,hc2⟩:=own_cell3 h3 e2
  cases e
  exact ⟨G,R,va,vn,vc,rfl,fun W hb=>⟨(hb.cell (p:=⟨G,k*2,none⟩) hG).trans (by rw [Nat.mul_comm];exact hc1),(hb.cell (p:=⟨G,k*2+1,none⟩) hG).trans (by rw [Nat.mul_comm k];exact hc2)⟩⟩)
 have HT:=hidden (fun j=>allR_take_len gs j)
 have HTS:=hidden (fun j (h:j<gs.length)=>allR_take h)
 have HTA:Hid (allR (gs.take gs.length)=allR gs):=hidden (by rw [List.take_length])
 have HTOT:=hidden htot
 clear h1 h2 h3 h4 htot
 go_enter Tryz.func20,Tryz.ntmps20
 go_wp2_with fail
 go_loopw [3,11] (fun a i wr=>∃ k:Nat,i=.int .i64 (k:Int)/\k<=gs.length/\a=.int .i64 ((allR (gs.take k)).length:Int)/\Below w.heap.size w wr) (fun _ i _=>gs.length-(intOf i).toNat)
 case atStart=>exact ⟨0,rfl,by omega,rfl,Below.refl _ _⟩
 case round =>
  obtain ⟨k,rfl,hk,rfl,hbel⟩:=hrel
  have HB:=hidden hbel
  clear hbel
  by_cases hlt:k<gs.length
  ·obtain ⟨G,R,va,vn,vc,rfl,hcells⟩:=HG.out k hlt
   obtain ⟨ca,cb⟩:=hcells wr HB.out
   have hlt':(k:Int)<(gs.length:Int):=by omega
   have HBW:=hidden (HB.out.alloc HB.out.size (.cells #[.slice (some ⟨R,0,none⟩) gs[k].1.length gs[k].1.length,.slice va vn vc] 109))
   obtain ⟨cg,_⟩:=cell_new2 wr (.slice (some ⟨R,0,none⟩) gs[k].1.length gs[k].1.length) (.slice va vn vc) 109
   have hks:=congrArg List.length (HTS.out k hlt)
   have hkl:=HT.out (k+1)
   have htt:=HTOT.out
   rw [List.length_append] at hks
   have hwr:IntKind.i64.wrap (((allR (gs.take k)).length:Int)+(gs[k].1.length:Int))=((allR (gs.take (k+1))).length:Int):=by rw [IntKind.wrap_i64];omega
   have HWR:=hidden (show ((allR (gs.take (k+1))).length:Int)=((allR (gs.take (k+1))).length:Int) from rfl)
   clear hks hkl htt hcells
   go_wp2_with fail
   go_roundw
   case rel=>exact ⟨k+1,by go_num,by omega,rfl,HBW.out⟩
   case measure=>simp [intOf];omega
  ·obtain rfl:k=gs.length:=by omega
   have hge:¬ ((gs.length:Nat):Int)<(gs.length:Int):=by omega
   have HTE:Hid ((allR (gs.take gs.length)).length=(allR gs).length):=hidden (congrArg List.length HTA.out)
   go_wp2_with fail
   go_ret
   exact ⟨by rw [← HTE.out];rfl,HB.out⟩
end Go.Proofs.YtpljdjmpamjkhaaGreatDoor
