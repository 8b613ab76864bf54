/- slices.Repeat of one number; the reader of layer column: nulls; ones. The reader of layer column: values. -/
import Derived.Test.YtpljdjmpamjkhaaGreatDoorZbb
import Derived.Laws.CopyOwn
set_option linter.unusedVariables false
set_option linter.unusedSimpArgs false
set_option maxRecDepth 100000
set_option maxHeartbeats 2000000
namespace Go.Proofs.YtpljdjmpamjkhaaGreatDoor
open Go.RowKit Go.Lib
def rowR (n m:Nat):List Value:=List.replicate m (.int .u64 1)++List.replicate (n-m) (.int .u64 0)
theorem rowR_length {n m:Nat} (h:m<=n):(rowR n m).length=n:=by simp [rowR];omega
theorem rowR_splice {n m c:Nat} (h:m+c<=n):splice (rowR n m) m (List.replicate c (.int .u64 1))=rowR n (m+c):=by
 unfold splice rowR
 have h1:(List.replicate m (Value.int .u64 1)++List.replicate (n-m) (Value.int .u64 0)).take m=List.replicate m (Value.int .u64 1):=by
  rw [List.take_append_of_le_length (by simp)]
  exact List.take_of_length_le (by simp)
 have h2:(List.replicate m (Value.int .u64 1)++List.replicate (n-m) (Value.int .u64 0)).drop (m+(List.replicate c (Value.int .u64 1)).length)=List.replicate (n-(m+c)) (Value.int .u64 0):=by
  rw [List.drop_append,List.drop_eq_nil_of_le (by simp)]
  simp
  omega
 rw [h1,h2,← List.append_assoc,List.replicate_append_replicate]
theorem bitsMul_any (n:Nat) (hn:n<=256) (w:World):Calls Tryz.prog 295 #[.int .u64 1,.int .u64 (n:Int)] w fun e w'=>e=.returned (.tuple #[.int .u64 0,.int .u64 (n:Int)])/\w'=w:=by
 have:=Any.bits_Mul lays212 1 n (by omega) (by omega) w
 have h1:1*n / 18446744073709551616=0:=by omega
 have h2:1*n % 18446744073709551616=n:=by omega
 rw [h1,h2] at this
 exact this
theorem size63:(Tryz.prog.info? 92).map (·.size)=some 1:=by kernel_rfl
theorem copy_row {W:World} {T n m sl dl sc dc c:Nat} {ad:Addr} (hrow:W.heap[T]?=some (.cells (rowR n m).toArray 92 (0,0))) (hc:c=Nat.min sl dl) (hfit:m+c<=n) (hsrc:∀ j,j<c->W.cell? (ad.add j)=some (.int .u64 1)) :
  ∃ W',(Builtin.copy_ #[142,142] 3 #[.slice (some ⟨T,m,none⟩) dl dc,.slice (some ad) sl sc]).run Tryz.prog W=.ok (.int .i64 (c:Int)) W'/\W'.heap[T]?=some (.cells (rowR n (m+c)).toArray 92 (0,0))/\Below T W W'/\W'.heap.size=W.heap.size:=by
 have hl:(List.replicate c (Value.int .u64 1)).length=c:=List.length_replicate
 have hrun:=run_copy_row (P:=Tryz.prog) W 142 142 3 92 T m dl dc ad sl sc (rowR n m).toArray 92 (List.replicate c (.int .u64 1)) Tryz.underlying142 size63 hrow (by rw [hl];exact hc) (fun j v hj=>by
  rw [List.getElem?_replicate] at hj
  split at hj
  ·next h =>
   cases hj
   exact hsrc j h
  ·cases hj) (by rw [hl];simp [rowR_length (show m<=n by omega)];exact hfit) (fun v hv=>by rw [List.eq_of_mem_replicate hv];rfl)
 have hs:=rowR_splice hfit
 unfold splice at hs
 rw [hl] at hrun hs
 rw [← List.append_assoc] at hs
 simp only [List.toList_toArray] at hrun
 rw [hs] at hrun
 refine ⟨_,hrun,?_,below_setRow (Below.refl _ _) (Nat.le_refl _) _,by simp [World.setRow]⟩
 exact setRow_heap W T _ _ 92 _ hrow
theorem repeat_any {w:World} {g:Nat} (hc:w.cell? ⟨g,0,none⟩=some (.int .u64 1)) (n:Nat) (hn:n<=256) :
  Calls Tryz.prog 277 #[.slice (some ⟨g,0,none⟩) 1 1,.int .i64 (n:Int)] w fun e w'=>(∃ v,e=.returned v/\OwnU w' w.heap.size v (List.replicate n 1))/\Below w.heap.size w w':=by
 obtain ⟨i0,hi,hz0,hz1',hz2⟩:=info_parts info92
 have HC:=hidden hc
 have hg:=World.block_lt_of_cell? w _ hc
 simp only at hg
 have HM:=hidden (bitsMul_any n hn)
 have hnn:¬ (n:Int)<0:=by omega
 have hbig:¬ (n:Int) > 9223372036854775807:=by omega
 clear hc
 go_enter Tryz.func277,Tryz.ntmps277
 go_wp2_with fail
 refine (HM.out _).mono ?_
 rintro e w1 ⟨rfl,rfl⟩
 go_wp2_with (first | (refine wpList_make_full _ rfl _ _ 142 rfl w1.heap.size 92 i0 (.int .u64 0) 1 Tryz.underlying142 hi hz0 hz1' .i64 .i64 _ _ n rfl rfl ?m1 ?m2 ?m3 ?m4 ?m5 ?_))
 case m1=>rfl
 case m2=>rfl
 case m3=>rw [hz2];omega
 case m4=>unfold maxLen;omega
 case m5=>omega
 intro w4 ho4 hg4
 have hb4:Below w1.heap.size w1 w4:=(Below.refl _ _).grown hg4 (Nat.le_refl _) (fun k hk=>by cases hk)
 have hrow:w4.heap[w1.heap.size]?=some (.cells (rowR n 0).toArray 92 (0,0)):=by
  obtain ⟨h0,⟨h,_⟩ | ⟨g',cap',cur,h1,h2,h3,h4,h5,h6,h7⟩⟩:=ho4
  ·cases h
  ·cases h1
   rw [h3]
   have e1:cur=(rowR n 0).toArray:=by
    apply Array.toList_inj.1
    rw [List.take_of_length_le (by simp;omega)] at h7
    rw [h7,toList_madeCells_one]
    simp [rowR]
   rw [e1]
 have hcell4:=(hb4.cell (p:=⟨g,0,none⟩) hg).trans HC.out
 obtain ⟨w5,hcp,hr5,hb5,hz5⟩:=copy_row (c:=Nat.min 1 n) (sl:=1) (dl:=n) (sc:=1) (dc:=n) (ad:=⟨g,0,none⟩) hrow rfl (by have:=Nat.min_le_right 1 n;show 0+min 1 n<=n;omega) (fun j hj=>by
  have:j=0:=by have:=Nat.min_le_left 1 n;have h:j<min 1 n:=hj;omega
  subst this
  rw [add0]
  exact hcell4)
 rw [Nat.zero_add] at hr5
 have HR5:=hidden hr5
 have HB5:=hidden (hb4.trans hb5)
 have hmn:Nat.min 1 n<=n:=Nat.min_le_right 1 n
 have hmn1:n=0∨1<=Nat.min 1 n:=by
  rcases Nat.eq_zero_or_pos n with h | h
  ·exact Or.inl h
  ·right
   show 1<=min 1 n
   omega
 have HMN:=hidden hmn1
 clear ho4 hg4 hb4 hrow hcell4 hr5 hb5 hz5 hmn1
 generalize Nat.min 1 n=mm at *
 go_wp2_with fail
 go_loopw [8] (fun i wr=>∃ m:Nat,i=.int .i64 (m:Int)/\m<=n/\(n=0∨1<=m)/\wr.heap[w1.heap.size]?=some (.cells (rowR n m).toArray 92 (0,0))/\Below w1.heap.size w1 wr) (fun i _=>n-(intOf i).toNat)
 case atStart=>exact ⟨mm,rfl,hmn,HMN.out,HR5.out,HB5.out⟩
 case round =>
  obtain ⟨m,rfl,hm,hm1,hrow,hbel⟩:=hrel
  have HR:=hidden hrow
  have HB:=hidden hbel
  have HM1:=hidden hm1
  clear hrow hbel hm1 hcp
  by_cases hlt:m<n
  ·have hm0:1<=m:=by have:=HM1.out;omega
   have hlt':(m:Int)<(n:Int):=by omega
   have hRd:wr.drew.heap[w1.heap.size]?=some (.cells (rowR n m).toArray 92 (0,0)):=HR.out
   have hBd:Below w1.heap.size wr wr.drew:=⟨rfl,rfl,rfl,Nat.le_refl _,fun _ _=>rfl⟩
   obtain ⟨w6,hcp,hr6,hb6,hz6⟩:=copy_row (W:=wr.drew) (c:=Nat.min m (n-m)) (sl:=m) (dl:=n-m) (sc:=n) (dc:=n-m) (ad:=⟨w1.heap.size,0,none⟩) hRd rfl (by show m+min m (n-m)<=n;omega) (fun j hj=>by
    have h:j<min m (n-m):=hj
    rw [add0,cell_block hRd]
    unfold rowR
    rw [List.getElem?_toArray,List.getElem?_append_left (by rw [List.length_replicate];omega),List.getElem?_replicate,if_pos (by omega)])
   have hc1:1<=Nat.min m (n-m):=by show 1<=min m (n-m);omega
   have hc2:m+Nat.min m (n-m)<=n:=by show m+min m (n-m)<=n;omega
   have HR6:=hidden hr6
   have HB6:=hidden ((HB.out.trans hBd).trans hb6)
   have hne:¬ n=m:=by omega
   clear hr6 hb6 hz6 hRd hBd
   generalize Nat.min m (n-m)=c at *
   have hwrap:IntKind.i64.wrap ((m:Int)+(c:Int))=(m:Int)+(c:Int):=by rw [IntKind.wrap_i64];omega
   go_wp2_with fail
   go_region
   go_wp2_with fail
   go_roundw
   case rel=>exact ⟨m+c,by go_num,hc2,Or.inr (by omega),HR6.out,HB6.out⟩
   case measure=>simp [intOf];omega
  ·obtain rfl:m=n:=by omega
   have HO:Hid (OwnU wr w1.heap.size (.slice (some ⟨w1.heap.size,0,none⟩) m m) (List.replicate m 1)):=hidden (by
    unfold OwnU
    refine ⟨by rw [vals_length];simp,Or.inr ⟨w1.heap.size,m,(rowR m m).toArray,by simp,Nat.le_refl _,HR.out,by simp,by unfold maxLen;omega,by simp [rowR_length (Nat.le_refl m)],?_⟩⟩
    have:rowR m m=vals .u64 (List.replicate m 1):=by simp [rowR,vals]
    rw [this]
    simp [vals])
   have hge:¬ ((m:Nat):Int)<(m:Int):=by omega
   go_wp2_with fail
   go_ret
   exact ⟨⟨_,rfl,HO.out⟩,HB.out⟩
def Nu (n:Nat) (l:List Nat):Prop:=l.length=n/\∀ x∈l,x<2
def byH (b:List Nat) (n:Nat) (x r:List Nat):Prop:=∃ l:List (Nat×Int×List Nat),l.length=n/\x=there l/\b=headB l++r
theorem nulls_one {b:List Nat} {f n:Nat} (hf:Er f) (hn:n<=256) (hx:chX b=1):RP (Nu n) (byH b n) f (unR (tkB (by8 n) b.tail) n 1) (tkR (by8 n) b.tail) (orf (tkF (by8 n) b.tail (chF b f)) (unE (tkB (by8 n) b.tail) n 1)):=by
 have hb:∃ t,b=1::t/\chF b f=f:=by
  cases b with
  | nil=>simp [chX] at hx
  | cons x t =>
   have:x=1:=by
    unfold chX at hx
    simp only at hx
    split at hx<;>omega
   subst this
   exact ⟨t,rfl,by simp [chF]⟩
 obtain ⟨t,rfl,hcf⟩:=hb
 rw [hcf,List.tail_cons]
 refine ⟨(tkF_er hf).orf (show Er (unE _ n ((1:Nat):Int)) from unE_er hn (by omega)),fun h=>?_,fun y r a1 a2 a3=>?_⟩
 ·obtain ⟨h1,h2⟩:=orf_eq_zero h
  exact ⟨(tkF_zero h1).1,unR_len h2⟩
 ·obtain ⟨l,rfl,rfl,a6⟩:=a3
  unfold headB at a6
  split at a6
  ·have h2:=there_two l
   have hl:=bits_length h2 (by rw [there_length];exact hn)
   have hbk:=bits_back h2 (by rw [there_length];exact hn)
   rw [there_length] at hl hbk
   have ht:t=packR (there l) 1++r:=by simpa using a6
   rw [ht,← hl,(tk_left (a:=packR (there l) 1) f).1,(tk_left (a:=packR (there l) 1) f).2.1,(tk_left (a:=packR (there l) 1) f).2.2,hbk.1,hbk.2,a1]
   exact ⟨rfl,rfl,rfl⟩
  ·simp at a6
theorem nulls_zero {b:List Nat} {f n:Nat} (hf:Er f) (hn:n<=256) (hx:chX b≠1):RP (Nu n) (byH b n) f (List.replicate n 1) b.tail (chF b f):=by
 have hef:Er (chF b f)/\(chF b f=0->f=0):=by
  unfold chF
  split
  ·exact ⟨hf.orf er30,fun h=>(orf_eq_zero h).1⟩
  ·split
   ·exact ⟨hf,fun h=>h⟩
   ·exact ⟨hf.orf er40,fun h=>(orf_eq_zero h).1⟩
 refine ⟨hef.1,fun h=>⟨hef.2 h,by simp,fun x hx=>by have:=List.eq_of_mem_replicate hx;omega⟩,fun y r a1 a2 a3=>?_⟩
 obtain ⟨l,rfl,rfl,a6⟩:=a3
 unfold headB at a6
 split at a6
 ·rw [a6] at hx
  exact absurd rfl hx
 ·next h0 =>
  have hcf:chF b f=f:=by rw [a6];simp [chF]
  rw [hcf,a6]
  exact ⟨a1,(there_full h0).symm,rfl⟩
theorem nulls_any {w:World} {p f:Nat} {b:List Nat} (h:Rs w p b f) (hf:Er f) (n:Nat) (hn:n<=256) :
  Calls Tryz.prog 262 #[.pointer (some ⟨p,0,none⟩),.int .i64 (n:Int)] w fun r w'=>∃ l b' f',(∃ v,r=.returned v/\OwnU w' w.heap.size v l)/\(∀ x∈l,x<2)/\l.length<=n/\Rs w' p b' f'/\RP (Nu n) (byH b n) f l b' f'/\Fr p w.heap.size w w':=by
 have HC:=hidden (choice_any h)
 have hlt:=h.lt
 have H1:=hidden (fun hx=>nulls_one (b:=b) hf hn hx)
 have H0:=hidden (fun hx=>nulls_zero (b:=b) hf hn hx)
 have hx2:chX b<=1:=by
  unfold chX
  split
  ·omega
  ·split<;>omega
 clear h
 generalize chX b=x at *
 generalize chF b f=f1 at *
 generalize b.tail=b1 at *
 by_cases hx:x=1
 ·have HR:=hidden (H1.out hx)
  clear H1 H0
  subst hx
  go_enter Tryz.func262,Tryz.ntmps262
  go_wp2_with fail
  refine HC.out.mono ?_
  rintro e w1 ⟨rfl,hs1,hf1⟩
  have HF1:=hidden hf1
  have hz1:=hf1.size
  have HP:=hidden (cpacked_any hs1 n hn)
  clear hs1 hf1
  go_wp2_with fail
  refine HP.out.mono ?_
  rintro e w2 ⟨⟨v2,rfl,ho2⟩,hs2,hf2⟩
  have HO2:=hidden (own_low ho2 hz1)
  have HS2:=hidden hs2
  have HF2:=hidden (HF1.out.trans (hf2.mono hz1))
  clear ho2 hs2 hf2
  have hsafe:(∀ x∈unR (tkB (by8 n) b1) n 1,x<2)/\(unR (tkB (by8 n) b1) n 1).length<=n:=by
   by_cases h0:unE (tkB (by8 n) b1) n 1=0
   ·exact ⟨(unR_len h0).2,Nat.le_of_eq (unR_len h0).1⟩
   ·rw [unR_no h0]
    exact ⟨fun x hx=>by simp at hx,by simp⟩
  have HSF:=hidden hsafe
  clear hsafe
  go_wp2_with fail
  go_ret
  exact ⟨_,_,_,⟨_,rfl,HO2.out⟩,HSF.out.1,HSF.out.2,HS2.out,HR.out,HF2.out⟩
 ·have HR:=hidden (H0.out hx)
  clear H1 H0
  obtain rfl:x=0:=by omega
  go_enter Tryz.func262,Tryz.ntmps262
  go_wp2_with fail
  refine HC.out.mono ?_
  rintro e w1 ⟨rfl,hs1,hf1⟩
  have HF1:=hidden hf1
  have hz1:=hf1.size
  have HS1:=hidden hs1
  have HP:=hidden (repeat_any (cell_new w1 (.int .u64 1) 92) n hn)
  have hz2:=World.size_alloc w1 (.cells #[.int .u64 1] 92)
  have HB1:=hidden (below_one w1 (.cells #[.int .u64 1] 92))
  clear hs1 hf1
  go_wp2_with fail
  refine HP.out.mono ?_
  rintro e w2 ⟨⟨v2,rfl,ho2⟩,hb2⟩
  have HO2:=hidden (own_low (B:=w.heap.size) ho2 (by omega))
  have hb3:=HB1.out.trans (hb2.mono (by omega))
  have HS2:=hidden (HS1.out.kept hb3 HS1.out.lt)
  have HF2:=hidden (HF1.out.trans (Fr.of_below (hb3.mono hz1)))
  clear ho2 hb2 hb3
  go_wp2_with fail
  go_ret
  exact ⟨_,_,_,⟨_,rfl,HO2.out⟩,fun x hx=>by have:=List.eq_of_mem_replicate hx;omega,by simp,HS2.out,HR.out,HF2.out⟩
theorem sum_take_succ {l:List Nat} {k:Nat} (h:k<l.length):(l.take (k+1)).sum=(l.take k).sum+l[k]:=by
 rw [List.take_succ_eq_append_getElem h,List.sum_append]
 simp
theorem sum_two:∀ {l:List Nat},(∀ x∈l,x<2)->l.sum<=l.length
 | [],_=>by simp
 | x::t,h=>by
  have ih:=sum_two (l:=t) fun y hy=>h y (by simp [hy])
  have:=h x (by simp)
  rw [List.sum_cons,List.length_cons]
  omega
theorem ones_any {w:World} {v:Value} {l:List Nat} (hs:Sv w v (vals .u64 l)) (h2:∀ x∈l,x<2) (hl:l.length<=256) :
  Calls Tryz.prog 264 #[v] w fun e w'=>e=.returned (.int .i64 (l.sum:Int))/\w'=w:=by
 have HS:=hidden hs
 have H2:=hidden h2
 obtain ⟨a,cap,rfl,hcap,hcm⟩:=hs.form1
 rw [vals_length] at *
 have hcm':cap<=9223372036854775807:=by unfold maxLen at hcm;omega
 clear hs h2 hcm
 go_enter Tryz.func264,Tryz.ntmps264
 go_wp2_with fail
 go_loopw [3,8] (fun o i wr=>∃ k:Nat,k<=l.length/\o=.int .i64 ((l.take k).sum:Int)/\i=.int .i64 (k:Int)/\wr=w) (fun _ i _=>l.length-(intOf i).toNat)
 case atStart=>exact ⟨0,by omega,rfl,rfl,rfl⟩
 case round =>
  obtain ⟨k,hk,rfl,rfl,rfl⟩:=hrel
  have hsum:(l.take k).sum<=256:=by
   have:=sum_two (l:=l.take k) fun x hx=>H2.out x (List.mem_of_mem_take hx)
   rw [List.length_take] at this
   omega
  by_cases hlt:k<l.length
  ·obtain ⟨b,off,rfl,hb,hck⟩:=HS.out.at1 (vals_get hlt)
   have HT:=hidden (sum_take_succ hlt)
   have hx:=H2.out l[k] (List.getElem_mem hlt)
   have hlt':(k:Int)<(l.length:Int):=by omega
   generalize l[k]=x at *
   generalize (l.take k).sum=s at *
   go_wp2_with fail
   go_roundw
   case rel=>exact ⟨k+1,by omega,by rw [HT.out];go_num,by go_num,trivial⟩
   case measure=>simp [intOf];omega
  ·obtain rfl:k=l.length:=by omega
   rw [List.take_length]
   have hge:¬ ((l.length:Nat):Int)<(l.length:Int):=by omega
   go_wp2_with fail
   go_ret
   exact ⟨rfl,rfl⟩
end Go.Proofs.YtpljdjmpamjkhaaGreatDoor
set_option linter.unusedVariables false
set_option linter.unusedSimpArgs false
set_option maxRecDepth 100000
set_option maxHeartbeats 4000000
namespace Go.Proofs.YtpljdjmpamjkhaaGreatDoor
open Go.RowKit Go.Lib
def Nv (k n:Nat) (l:List (Nat×Int×List Nat)):Prop:=l.length=n/\∀ c∈l,Cellk k c/\c.1≠0
def byT (k:Nat) (b:List Nat) (l:List (Nat×Int×List Nat)) (r:List Nat):Prop:=b=tailB k l/\r=[]
theorem ownC_all {l:List (Nat×Int×List Nat)} (h:∀ c∈l,c.1≠0):ownC l=l:=by
 unfold ownC
 rw [List.filter_eq_self]
 intro c hc
 simpa using h c hc
theorem er_end {f:Nat} {b:List Nat} (h:Er f):Er (orf f (if b.length=0 then 0 else 32)):=by
 refine h.orf ?_
 split
 ·exact er0
 ·exact er32
theorem vals_1 {b:List Nat} {f n:Nat} (hb:Bs b) (hf:Er f) (hn:n<=256):RP (Nv 1 n) (byT 1 b) f ((readM b n).1.map fun z=>(1,z,[])) [] (orf f (readM b n).2):=by
 refine ⟨hf.orf (readM_er hn),fun h=>?_,fun y r a1 a2 a3=>?_⟩
 ·obtain ⟨h1,h2⟩:=orf_eq_zero h
  obtain ⟨h3,h4⟩:=readM_len hb h2
  refine ⟨h1,by rw [List.length_map];omega,fun c hc=>?_⟩
  obtain ⟨z,hz,rfl⟩:=List.mem_map.1 hc
  exact ⟨Or.inr (Or.inl ⟨rfl,z,rfl,h4 z hz⟩),by simp⟩
 ·have ho:=ownC_all fun c hc=>(a2.2 c hc).2
  have hin:=ownC_ints fun c hc=>(a2.2 c hc).1
  rw [ho] at hin
  have hb2:b=bstC (y.map fun c=>c.2.1):=by rw [a3.1,tail_1,ho]
  have hbk:=bstC_back hin.1 (by rw [List.length_map];have:=a2.1;omega)
  rw [List.length_map,a2.1] at hbk
  rw [hb2,hbk,a1,a3.2]
  exact ⟨rfl,hin.2,rfl⟩
theorem vals_2 {b:List Nat} {f n:Nat} (hf:Er f) (hn:n<=256):RP (Nv 2 n) (byT 2 b) f ((unR (tkB (by8 n) b) n 1).map fun (x:Nat)=>(2,(x:Int),[])) (tkR (by8 n) b) (orf (orf (tkF (by8 n) b f) (unE (tkB (by8 n) b) n 1)) (if (tkR (by8 n) b).length=0 then 0 else 32)):=by
 refine ⟨er_end ((tkF_er hf).orf (show Er (unE _ n ((1:Nat):Int)) from unE_er hn (by omega))),fun h=>?_,fun y r a1 a2 a3=>?_⟩
 ·obtain ⟨h1,h2⟩:=orf_eq_zero (orf_eq_zero h).1
  obtain ⟨h3,h4⟩:=unR_len h2
  refine ⟨(tkF_zero h1).1,by rw [List.length_map];exact h3,fun c hc=>?_⟩
  obtain ⟨z,hz,rfl⟩:=List.mem_map.1 hc
  exact ⟨Or.inr (Or.inr (Or.inl ⟨rfl,z,rfl,h4 z hz⟩)),by simp⟩
 ·have ho:=ownC_all fun c hc=>(a2.2 c hc).2
  have hin:=ownC_truths fun c hc=>(a2.2 c hc).1
  rw [ho] at hin
  have hb2:b=packR (y.map fun c=>c.2.1.toNat) 1++[]:=by rw [a3.1,tail_2,ho,List.append_nil]
  have hm:(y.map fun c=>c.2.1.toNat).length<=256:=by rw [List.length_map];have:=a2.1;omega
  have hl:=bits_length hin.1 hm
  have hbk:=bits_back hin.1 hm
  rw [List.length_map,a2.1] at hl hbk
  rw [hb2,← hl,(tk_left (a:=packR (y.map fun c=>c.2.1.toNat) 1) (r:=[]) f).1,(tk_left (a:=packR (y.map fun c=>c.2.1.toNat) 1) (r:=[]) f).2.1,(tk_left (a:=packR (y.map fun c=>c.2.1.toNat) 1) (r:=[]) f).2.2,hbk.1,hbk.2,a1,a3.2]
  exact ⟨rfl,hin.2,rfl⟩
theorem vals_3 {b b1:List Nat} {f f1 n:Nat} {l:List (List Nat)} (h:RP (Nt n) (byW b) f l b1 f1):RP (Nv 3 n) (byT 3 b) f (l.map fun s=>(3,0,s)) b1 (orf f1 (if b1.length=0 then 0 else 32)):=by
 obtain ⟨r1,r2,r3⟩:=h
 refine ⟨er_end r1,fun h=>?_,fun y r a1 a2 a3=>?_⟩
 ·obtain ⟨h1,h2,h3⟩:=r2 (orf_eq_zero h).1
  refine ⟨h1,by rw [List.length_map];exact h2,fun c hc=>?_⟩
  obtain ⟨s,hs,rfl⟩:=List.mem_map.1 hc
  exact ⟨Or.inr (Or.inr (Or.inr ⟨rfl,s,rfl,h3 s hs⟩)),by simp⟩
 ·have ho:=ownC_all fun c hc=>(a2.2 c hc).2
  have hin:=ownC_words fun c hc=>(a2.2 c hc).1
  rw [ho] at hin
  obtain ⟨d1,d2,d3⟩:=r3 (y.map fun c=>c.2.2) [] a1 ⟨by rw [List.length_map];exact a2.1,hin.1⟩ ⟨by rw [a3.1,tail_3,ho],rfl⟩
  rw [d2,d3,d1,a3.2]
  exact ⟨rfl,hin.2,rfl⟩
def VPost (k n:Nat) (b:List Nat) (p f:Nat) (w:World) (r:Ending) (w':World):Prop :=
 ∃ l b' f',(∃ v,r=.returned v/\OwnV w' w.heap.size v l)/\Rs w' p b' f'/\RP (Nv k n) (byT k b) f l b' f'/\Fr p w.heap.size w w'
theorem values_1 {w:World} {p f:Nat} {b:List Nat} (h:Rs w p b f) (hf:Er f) (n:Nat) (hn:n<=256) :
  Calls Tryz.prog 263 #[.pointer (some ⟨p,0,none⟩),.int .u8 1,.int .i64 (n:Int)] w (VPost 1 n b p f w):=by
 have hlt:=h.lt
 have HN:=hidden (lastNumbers_any h n)
 have HRP:=hidden (vals_1 h.bs hf hn)
 have HSF:=hidden (readM_safe h.bs hn)
 clear h
 generalize (readM b n).1=L at *
 generalize orf f (readM b n).2=f1 at *
 have hll:=HSF.out.2
 go_enter Tryz.func263,Tryz.ntmps263
 go_wp2_with fail
 refine HN.out.mono ?_
 rintro e w1 ⟨⟨v1,rfl,ho1⟩,hs1,hf1⟩
 have HS1:=hidden hs1
 have HF1:=hidden hf1
 have hz1:=hf1.size
 have HV1:=hidden (Sv.of_own ho1)
 have HVB:Hid (∀ j,v1.ownBlock=some j->j<w1.heap.size):=hidden (fun j hj=>(ho1.lt j hj).2)
 obtain ⟨a1,c1,rfl,hc1,hcm1⟩:=own_slice ho1
 have hcm1':c1<=9223372036854775807:=by unfold maxLen at hcm1;omega
 clear hs1 hf1 ho1 hcm1
 go_wp2_with fail
 go_loopw [7,21] (fun o i wr=>∃ j:Nat,j<=L.length/\i=.int .i64 (j:Int)/\OwnV wr w1.heap.size o ((L.take j).map (fun z=>((1,z,[]):Nat×Int×List Nat)))/\Below w1.heap.size w1 wr) (fun _ i _=>L.length-(intOf i).toNat)
 case atStart=>exact ⟨0,by omega,rfl,OwnV.nil _ _,Below.refl _ _⟩
 case round =>
  obtain ⟨j,hj,rfl,hown,hbel⟩:=hrel
  have HO:=hidden hown
  have HB:=hidden hbel
  have hzr:=hbel.size
  clear hown hbel
  by_cases hjl:j<L.length
  ·obtain ⟨g,off,rfl,hg,hcell⟩:=(HV1.out.keptB HVB.out HB.out).at1 (ivals_get hjl)
   have hjl':(j:Int)<(L.length:Int):=by omega
   have HNX:Hid ((L.take (j+1)).map (fun z=>((1,z,[]):Nat×Int×List Nat))=(L.take j).map (fun z=>((1,z,[]):Nat×Int×List Nat))++[(fun z=>((1,z,[]):Nat×Int×List Nat)) L[j]]):=hidden (by
    rw [List.take_succ_eq_append_getElem hjl,List.map_append]
    rfl)
   have hlen':((L.take j).map (fun z=>((1,z,[]):Nat×Int×List Nat))).length<=100000:=by rw [List.length_map,List.length_take];omega
   generalize L[j]=z at *
   generalize (L.take j).map (fun z=>((1,z,[]):Nat×Int×List Nat))=LL at *
   go_wp2_with (first | (at_builtin;refine wpList_append_v rfl _ _ rfl w1.heap.size _ _ (1,z,[]) LL rfl (HO.out.kept (below_one _ _)) rfl (cell_new _ _ _) hlen' ?c2 ?_))
   case c2=>first | omega | (rw [World.size_alloc];omega)
   intro v' w5 o5 b5
   have HO5:=hidden o5
   have HB5:=hidden ((HB.out.alloc hzr _).trans b5)
   clear o5 b5
   go_wp2_with fail
   go_roundw
   case rel=>exact ⟨j+1,by omega,by go_num,by rw [HNX.out];exact HO5.out,HB5.out⟩
   case measure=>simp [intOf];omega
  ·obtain rfl:j=L.length:=by omega
   rw [List.take_length] at HO
   have hge:¬ ((L.length:Nat):Int)<(L.length:Int):=by omega
   have HSR:=hidden (HS1.out.kept HB.out HS1.out.lt)
   have HFR:=hidden (HF1.out.trans (Fr.of_below (p:=p) (HB.out.mono hz1)))
   generalize L.map (fun z=>((1,z,[]):Nat×Int×List Nat))=X at *
   go_wp2_with fail
   refine (cend_any HSR.out).mono ?_
   rintro e w5 ⟨rfl,hs5,hf5⟩
   have HO5:Hid (OwnV w5 w1.heap.size _ X):=hidden (hf5.own HO.out (by omega))
   have HS5:=hidden hs5
   have HF5:=hidden (HFR.out.trans (hf5.mono (by omega)))
   clear hs5 hf5
   go_wp2_with fail
   go_ret
   exact ⟨X,_,_,⟨_,rfl,own_low HO5.out hz1⟩,HS5.out,(by rw [show orf f1 (if ([]:List Nat).length=0 then 0 else 32)=f1 by unfold orf;split<;>simp_all];exact HRP.out),HF5.out⟩
theorem values_2 {w:World} {p f:Nat} {b:List Nat} (h:Rs w p b f) (hf:Er f) (n:Nat) (hn:n<=256) :
  Calls Tryz.prog 263 #[.pointer (some ⟨p,0,none⟩),.int .u8 2,.int .i64 (n:Int)] w (VPost 2 n b p f w):=by
 have hlt:=h.lt
 have HN:=hidden (cpacked_any h n hn)
 have HRP:=hidden (vals_2 (b:=b) hf hn)
 have HSF:Hid ((∀ x∈unR (tkB (by8 n) b) n 1,x<2)/\(unR (tkB (by8 n) b) n 1).length<=n):=hidden (by
  by_cases h0:unE (tkB (by8 n) b) n 1=0
  ·exact ⟨(unR_len h0).2,Nat.le_of_eq (unR_len h0).1⟩
  ·rw [unR_no h0]
   exact ⟨fun x hx=>by simp at hx,by simp⟩)
 clear h
 generalize unR (tkB (by8 n) b) n 1=L at *
 generalize orf (tkF (by8 n) b f) (unE (tkB (by8 n) b) n 1)=f1 at *
 generalize tkR (by8 n) b=b1 at *
 have hll:=HSF.out.2
 go_enter Tryz.func263,Tryz.ntmps263
 go_wp2_with fail
 refine HN.out.mono ?_
 rintro e w1 ⟨⟨v1,rfl,ho1⟩,hs1,hf1⟩
 have HS1:=hidden hs1
 have HF1:=hidden hf1
 have hz1:=hf1.size
 have HV1:=hidden (Sv.of_own ho1)
 have HVB:Hid (∀ j,v1.ownBlock=some j->j<w1.heap.size):=hidden (fun j hj=>(ho1.lt j hj).2)
 obtain ⟨a1,c1,rfl,hc1,hcm1⟩:=own_slice ho1
 have hcm1':c1<=9223372036854775807:=by unfold maxLen at hcm1;omega
 clear hs1 hf1 ho1 hcm1
 go_wp2_with fail
 go_loopw [7,37] (fun o i wr=>∃ j:Nat,j<=L.length/\i=.int .i64 (j:Int)/\OwnV wr w1.heap.size o ((L.take j).map (fun (x:Nat)=>((2,(x:Int),[]):Nat×Int×List Nat)))/\Below w1.heap.size w1 wr) (fun _ i _=>L.length-(intOf i).toNat)
 case atStart=>exact ⟨0,by omega,rfl,OwnV.nil _ _,Below.refl _ _⟩
 case round =>
  obtain ⟨j,hj,rfl,hown,hbel⟩:=hrel
  have HO:=hidden hown
  have HB:=hidden hbel
  have hzr:=hbel.size
  clear hown hbel
  by_cases hjl:j<L.length
  ·obtain ⟨g,off,rfl,hg,hcell⟩:=(HV1.out.keptB HVB.out HB.out).at1 (vals_get hjl)
   have hjl':(j:Int)<(L.length:Int):=by omega
   have HNX:Hid ((L.take (j+1)).map (fun (x:Nat)=>((2,(x:Int),[]):Nat×Int×List Nat))=(L.take j).map (fun (x:Nat)=>((2,(x:Int),[]):Nat×Int×List Nat))++[(fun (x:Nat)=>((2,(x:Int),[]):Nat×Int×List Nat)) L[j]]):=hidden (by
    rw [List.take_succ_eq_append_getElem hjl,List.map_append]
    rfl)
   have hlen':((L.take j).map (fun (x:Nat)=>((2,(x:Int),[]):Nat×Int×List Nat))).length<=100000:=by rw [List.length_map,List.length_take];omega
   have hx2:=HSF.out.1 L[j] (List.getElem_mem hjl)
   generalize L[j]=x at *
   generalize (L.take j).map (fun (x:Nat)=>((2,(x:Int),[]):Nat×Int×List Nat))=LL at *
   obtain rfl | rfl:x=0∨x=1:=by omega
   ·skip
    go_wp2_with (first | (at_builtin;refine wpList_append_v rfl _ _ rfl w1.heap.size _ _ (2,((0:Nat):Int),[]) LL rfl (HO.out.kept (below_one _ _)) rfl (cell_new _ _ _) hlen' ?c2 ?_))
    case c2=>first | omega | (rw [World.size_alloc];omega)
    intro v' w5 o5 b5
    have HO5:=hidden o5
    have HB5:=hidden ((HB.out.alloc hzr _).trans b5)
    clear o5 b5
    go_wp2_with fail
    go_roundw
    case rel=>exact ⟨j+1,by omega,by go_num,by rw [HNX.out];exact HO5.out,HB5.out⟩
    case measure=>simp [intOf];omega
   ·skip
    go_wp2_with (first | (at_builtin;refine wpList_append_v rfl _ _ rfl w1.heap.size _ _ (2,((1:Nat):Int),[]) LL rfl (HO.out.kept (below_one _ _)) rfl (cell_new _ _ _) hlen' ?c2 ?_))
    case c2=>first | omega | (rw [World.size_alloc];omega)
    intro v' w5 o5 b5
    have HO5:=hidden o5
    have HB5:=hidden ((HB.out.alloc hzr _).trans b5)
    clear o5 b5
    go_wp2_with fail
    go_roundw
    case rel=>exact ⟨j+1,by omega,by go_num,by rw [HNX.out];exact HO5.out,HB5.out⟩
    case measure=>simp [intOf];omega
  ·obtain rfl:j=L.length:=by omega
   rw [List.take_length] at HO
   have hge:¬ ((L.length:Nat):Int)<(L.length:Int):=by omega
   have HSR:=hidden (HS1.out.kept HB.out HS1.out.lt)
   have HFR:=hidden (HF1.out.trans (Fr.of_below (p:=p) (HB.out.mono hz1)))
   generalize L.map (fun (x:Nat)=>((2,(x:Int),[]):Nat×Int×List Nat))=X at *
   go_wp2_with fail
   refine (cend_any HSR.out).mono ?_
   rintro e w5 ⟨rfl,hs5,hf5⟩
   have HO5:Hid (OwnV w5 w1.heap.size _ X):=hidden (hf5.own HO.out (by omega))
   have HS5:=hidden hs5
   have HF5:=hidden (HFR.out.trans (hf5.mono (by omega)))
   clear hs5 hf5
   go_wp2_with fail
   go_ret
   exact ⟨X,_,_,⟨_,rfl,own_low HO5.out hz1⟩,HS5.out,HRP.out,HF5.out⟩
theorem values_3 {w:World} {p f:Nat} {b:List Nat} (h:Rs w p b f) (hf:Er f) (n:Nat) (hn:n<=256) :
  Calls Tryz.prog 263 #[.pointer (some ⟨p,0,none⟩),.int .u8 3,.int .i64 (n:Int)] w (VPost 3 n b p f w):=by
 have hlt:=h.lt
 have HN:=hidden (rtexts_any h hf n hn)
 clear h
 go_enter Tryz.func263,Tryz.ntmps263
 go_wp2_with fail
 refine HN.out.mono ?_
 rintro e w1 ⟨L,b1,f1,⟨v1,rfl,ho1⟩,hts,hll,hs1,hrp1,hf1⟩
 have HRP:=hidden (vals_3 hrp1)
 clear hts hrp1
 have HS1:=hidden hs1
 have HF1:=hidden hf1
 have hz1:=hf1.size
 have HV1:=hidden (Sv.of_own ho1)
 have HVB:Hid (∀ j,v1.ownBlock=some j->j<w1.heap.size):=hidden (fun j hj=>(ho1.lt j hj).2)
 obtain ⟨a1,c1,rfl,hc1,hcm1⟩:=own_slice ho1
 have hcm1':c1<=9223372036854775807:=by unfold maxLen at hcm1;omega
 clear hs1 hf1 ho1 hcm1
 go_wp2_with fail
 go_loopw [7,54] (fun o i wr=>∃ j:Nat,j<=L.length/\i=.int .i64 (j:Int)/\OwnV wr w1.heap.size o ((L.take j).map (fun s=>((3,0,s):Nat×Int×List Nat)))/\Below w1.heap.size w1 wr) (fun _ i _=>L.length-(intOf i).toNat)
 case atStart=>exact ⟨0,by omega,rfl,OwnV.nil _ _,Below.refl _ _⟩
 case round =>
  obtain ⟨j,hj,rfl,hown,hbel⟩:=hrel
  have HO:=hidden hown
  have HB:=hidden hbel
  have hzr:=hbel.size
  clear hown hbel
  by_cases hjl:j<L.length
  ·obtain ⟨g,off,rfl,hg,hcell⟩:=(HV1.out.keptB HVB.out HB.out).at1 (svals_getC hjl)
   have hjl':(j:Int)<(L.length:Int):=by omega
   have HNX:Hid ((L.take (j+1)).map (fun s=>((3,0,s):Nat×Int×List Nat))=(L.take j).map (fun s=>((3,0,s):Nat×Int×List Nat))++[(fun s=>((3,0,s):Nat×Int×List Nat)) L[j]]):=hidden (by
    rw [List.take_succ_eq_append_getElem hjl,List.map_append]
    rfl)
   have hlen':((L.take j).map (fun s=>((3,0,s):Nat×Int×List Nat))).length<=100000:=by rw [List.length_map,List.length_take];omega
   rw [txt_eq] at hcell
   generalize L[j]=s at *
   generalize (L.take j).map (fun s=>((3,0,s):Nat×Int×List Nat))=LL at *
   go_wp2_with (first | (at_builtin;refine wpList_append_v rfl _ _ rfl w1.heap.size _ _ (3,0,s) LL rfl (HO.out.kept (below_one _ _)) rfl (cell_new _ _ _) hlen' ?c2 ?_))
   case c2=>first | omega | (rw [World.size_alloc];omega)
   intro v' w5 o5 b5
   have HO5:=hidden o5
   have HB5:=hidden ((HB.out.alloc hzr _).trans b5)
   clear o5 b5
   go_wp2_with fail
   go_roundw
   case rel=>exact ⟨j+1,by omega,by go_num,by rw [HNX.out];exact HO5.out,HB5.out⟩
   case measure=>simp [intOf];omega
  ·obtain rfl:j=L.length:=by omega
   rw [List.take_length] at HO
   have hge:¬ ((L.length:Nat):Int)<(L.length:Int):=by omega
   have HSR:=hidden (HS1.out.kept HB.out HS1.out.lt)
   have HFR:=hidden (HF1.out.trans (Fr.of_below (p:=p) (HB.out.mono hz1)))
   generalize L.map (fun s=>((3,0,s):Nat×Int×List Nat))=X at *
   go_wp2_with fail
   refine (cend_any HSR.out).mono ?_
   rintro e w5 ⟨rfl,hs5,hf5⟩
   have HO5:Hid (OwnV w5 w1.heap.size _ X):=hidden (hf5.own HO.out (by omega))
   have HS5:=hidden hs5
   have HF5:=hidden (HFR.out.trans (hf5.mono (by omega)))
   clear hs5 hf5
   go_wp2_with fail
   go_ret
   exact ⟨X,_,_,⟨_,rfl,own_low HO5.out hz1⟩,HS5.out,HRP.out,HF5.out⟩
end Go.Proofs.YtpljdjmpamjkhaaGreatDoor
