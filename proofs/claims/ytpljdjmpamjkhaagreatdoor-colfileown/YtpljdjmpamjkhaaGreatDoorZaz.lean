/- slices.Clone, Sort, Compact, BinarySearch over texts, in words of rows; the unlike texts, rising. Contracts of layer column: placesAmong, the two ways of writing texts, bestTexts. Contracts of layer column: texts by their places, bestTexts. -/
import Derived.Test.YtpljdjmpamjkhaaGreatDoorZay
set_option linter.unusedVariables false
set_option linter.unusedSimpArgs false
namespace Go.Proofs.YtpljdjmpamjkhaaGreatDoor
open Go.RowKit Go.Lib Go.Shelf
theorem lt_map:∀ {a b:List UInt8},a<b↔a.map UInt8.toNat<b.map UInt8.toNat
 | [],[]=>by simp
 | [],y::t=>by simp
 | x::s,[]=>by simp
 | x::s,y::t=>by
  have ih:=lt_map (a:=s) (b:=t)
  have h3:(x::s<y::t)↔(x<y∨x=y/\s<t):=List.cons_lt_cons_iff
  have h4:(x.toNat::s.map UInt8.toNat<y.toNat::t.map UInt8.toNat)↔(x.toNat<y.toNat∨x.toNat=y.toNat/\s.map UInt8.toNat<t.map UInt8.toNat):=List.cons_lt_cons_iff
  have h5:x=y↔x.toNat=y.toNat:=⟨fun e=>by rw [e],fun e=>UInt8.toNat_inj.1 e⟩
  rw [List.map_cons,List.map_cons,h3,h4,ih,UInt8.lt_iff_toNat_lt,h5]
theorem u8_three {x y:List UInt8} (h1:x≠y) (h2:¬ y<x):x<y:=by
 rcases List.le_iff_lt_or_eq.1 (show x<=y from h2) with h | h
 ·exact h
 ·exact absurd h h1
def srtT (l:List (List UInt8)):List (List UInt8):=l.mergeSort fun x y=>decide (x<=y)
theorem srtT_length (l:List (List UInt8)):(srtT l).length=l.length:=List.length_mergeSort l
theorem mem_compactT {l:List (List UInt8)}:∀ m,m<=l.length->∀ z,z∈compactUpTo l.toArray m↔z∈l.take m
 | 0,_,z=>by simp [compactUpTo]
 | m+1,hm,z=>by
  have ih:=mem_compactT (l:=l) m (by omega)
  have hg:l.toArray[m]! = l[m]:=by simp [show m<l.length by omega]
  rw [compactUpTo_succ,List.mem_append,ih z,List.take_succ_eq_append_getElem (by omega),List.mem_append,hg]
  by_cases hk:keeps l.toArray m=true
  ·rw [if_pos hk]
  ·rw [if_neg hk]
   constructor
   ·rintro (h | h)
    ·exact Or.inl h
    ·simp at h
   ·rintro (h | h)
    ·exact Or.inl h
    ·left
     have h':z=l[m]:=by simpa using h
     unfold keeps at hk
     simp only [decide_eq_true_eq] at hk
     have hg1:l.toArray[m-1]! = l[m-1]:=by simp [show m-1<l.length by omega]
     rw [hg,hg1] at hk
     have hm0:m≠0:=fun e=>hk (Or.inl e)
     have he:l[m]=l[m-1]:=Decidable.byContradiction fun e=>hk (Or.inr e)
     rw [h',he]
     exact List.mem_take_iff_getElem.2 ⟨m-1,by omega,rfl⟩
theorem rising_compactT {l:List (List UInt8)} (hs:l.Pairwise (·<=·)):∀ m,m<=l.length->(compactUpTo l.toArray m).Pairwise (· < ·)
 | 0,_=>by simp [compactUpTo]
 | m+1,hm=>by
  have ih:=rising_compactT hs m (by omega)
  have hg:l.toArray[m]! = l[m]:=by simp [show m<l.length by omega]
  rw [compactUpTo_succ,hg]
  by_cases hk:keeps l.toArray m=true
  ·rw [if_pos hk]
   refine List.pairwise_append.2 ⟨ih,by simp,fun a ha b hb=>?_⟩
   have hb':b=l[m]:=by simpa using hb
   subst hb'
   have h1:=(mem_compactT m (by omega) a).1 ha
   obtain ⟨j,hj,rfl⟩:=List.mem_take_iff_getElem.1 h1
   have hjm:j<m:=by omega
   unfold keeps at hk
   simp only [decide_eq_true_eq] at hk
   have hg1:l.toArray[m-1]! = l[m-1]:=by simp [show m-1<l.length by omega]
   rw [hg,hg1] at hk
   have h2:l[m]≠l[m-1]:=by
    rcases hk with h | h
    ·omega
    ·exact h
   have h3:l[m-1]<=l[m]:=List.pairwise_iff_getElem.1 hs (m-1) m (by omega) (by omega) (by omega)
   have h4:l[j]<=l[m-1]:=by
    rcases Nat.lt_or_ge j (m-1) with h | h
    ·exact List.pairwise_iff_getElem.1 hs j (m-1) (by omega) (by omega) h
    ·have:j=m-1:=by omega
     subst this
     exact List.le_refl _
   have h5:l[m-1]<l[m]:=u8_three (fun e=>h2 e.symm) h3
   exact List.lt_of_le_of_lt h4 h5
  ·rw [if_neg hk,List.append_nil]
   exact ih
theorem compact_srtT (l:List (List UInt8)):(Lib.compact (srtT l)).map (fun s=>s.map UInt8.toNat)=tuq (l.map fun s=>s.map UInt8.toNat):=by
 have hs:(srtT l).Pairwise (·<=·):=by
  have:=List.pairwise_mergeSort (le:=fun x y:List UInt8=>decide (x<=y)) (fun a b c h1 h2=>by simp only [decide_eq_true_eq] at *;exact List.le_trans h1 h2) (fun a b=>by simp only [Bool.or_eq_true,decide_eq_true_eq];exact List.le_total a b) l
  exact this.imp (fun h=>by simpa using h)
 refine rising_same ?_ (tuq_rising _) (fun z=>?_)
 ·exact List.pairwise_map.2 ((rising_compactT hs _ (Nat.le_refl _)).imp fun h=>lt_map.1 h)
 ·rw [mem_tuq]
  have hm:=fun y=>mem_compactT (l:=srtT l) (srtT l).length (Nat.le_refl _) y
  rw [List.take_length] at hm
  unfold Lib.compact
  simp only [List.mem_map,hm]
  constructor
  ·rintro ⟨y,hy,rfl⟩
   exact ⟨y,List.mem_mergeSort.1 hy,rfl⟩
  ·rintro ⟨y,hy,rfl⟩
   exact ⟨y,List.mem_mergeSort.2 hy,rfl⟩
def upT (l:List (List Nat)):List (List UInt8):=l.map fun s=>s.map Nat.toUInt8
def dnT (l:List (List UInt8)):List (List Nat):=l.map fun s=>s.map UInt8.toNat
theorem svals_up (l:List (List Nat)):svalsC l=(upT l).map encStr:=by
 unfold svalsC upT
 rw [List.map_map]
 rfl
theorem up_dn (u:List (List UInt8)):upT (dnT u)=u:=by
 unfold upT dnT
 rw [List.map_map]
 conv=>rhs;rw [← List.map_id u]
 apply List.map_congr_left
 intro s _
 simp only [Function.comp,List.map_map,id]
 conv=>rhs;rw [← List.map_id s]
 apply List.map_congr_left
 intro x _
 simp
theorem dn_up {l:List (List Nat)} (h:∀ s∈l,Bs s):dnT (upT l)=l:=by
 unfold upT dnT
 rw [List.map_map]
 conv=>rhs;rw [← List.map_id l]
 apply List.map_congr_left
 intro s hs
 exact map_fwd (h s hs)
theorem up_length (l:List (List Nat)):(upT l).length=l.length:=List.length_map _
theorem compact_up {l:List (List Nat)} (h:∀ s∈l,Bs s):Lib.compact (srtT (upT l))=upT (tuq l):=by
 have h1:=compact_srtT (upT l)
 have h2:(upT l).map (fun s=>s.map UInt8.toNat)=l:=dn_up h
 rw [h2] at h1
 rw [← h1]
 exact (up_dn _).symm
theorem Sv.texts {W:World} {b off n cap:Nat} {l:List (List Nat)} (h:Sv W (.slice (some ⟨b,off,none⟩) n cap) (svalsC l)):∀ j,j<(l.map bytesT).length->W.cell? ⟨b,off+j,none⟩=some (.string ((l.map bytesT).getD j ByteArray.empty)):=by
 intro j hj
 rw [List.length_map] at hj
 obtain ⟨b',off',h1,_,h2⟩:=h.at1 (svals_getC hj)
 cases h1
 rw [h2,txt_eq]
 simp [List.getD_eq_getElem?_getD,hj]
theorem cloneS_any {w:World} {v:Value} {l:List (List Nat)} (hs:Sv w v (svalsC l)) (hl:l.length<=256) :
  Calls Tryz.prog 207 #[v] w fun e w'=>(∃ v',e=.returned v'/\OwnS w' w.heap.size v' l)/\Below w.heap.size w w':=by
 have hs0:=hs
 obtain ⟨a,cap,rfl,h1,h2,h3,h4⟩:=hs
 rw [svals_lengthC] at *
 cases a with
 | none =>
  have hc:=h3 rfl
  have hl0:l=[]:=List.eq_nil_of_length_eq_zero (by omega)
  subst hl0
  refine Calls.mono (AnyG.slices_Clone_string_nil laysSlN42_f72 _ _ w) ?_
  rintro e w' ⟨rfl,rfl⟩
  exact ⟨⟨_,rfl,OwnS.nil _ _⟩,Below.refl _ _⟩
 | some a =>
  rcases Nat.eq_zero_or_pos l.length with h0 | h0
  ·have hl0:l=[]:=List.eq_nil_of_length_eq_zero h0
   subst hl0
   refine Calls.mono (AnyG.slices_Clone_string_zero laysSlN42_f72 a cap w) ?_
   rintro e w' ⟨v',rfl,ho,_,hb⟩
   exact ⟨⟨_,rfl,ho⟩,hb⟩
  ·obtain ⟨b,off,h5,h6,h7⟩:=h4 h0
   cases h5
   refine Calls.mono (AnyG.slices_Clone_string laysSlN42_f72 b off l.length cap (l.map bytesT) w (by rw [List.length_map];omega) (by omega) hs0.texts) ?_
   rintro e w' ⟨v',rfl,ho,_,hb⟩
   rw [List.take_of_length_le (by rw [List.length_map];omega),List.map_map] at ho
   exact ⟨⟨_,rfl,ho⟩,hb⟩
theorem putRow_block {α : Type} [Inhabited α] {enc:α->Value} {w:World} {g q k:Nat} {d:Array α} (h:k≠g):(Sort.putRow enc (Sort.ahead w q) g 0 d).heap[k]?=w.heap[k]?:=by
 simp [Sort.putRow,Sort.mapBlock,Sort.ahead,Array.getElem?_modify,Ne.symm h]
theorem sortS_own {w:World} {B:Nat} {v:Value} {zs:List (List UInt8)} (h:w.ownsRow B 9 1 v zs.length (zs.map encStr)) (hl:zs.length<=256) (hB:B<=w.heap.size) :
  Calls Tryz.prog 208 #[v] w fun e w'=>e=.returned (.tuple #[])/\w'.ownsRow B 9 1 v zs.length ((srtT zs).map encStr)/\Below B w w'/\∀ k,k<w.heap.size->v.ownBlock≠some k->w'.heap[k]?=w.heap[k]?:=by
 by_cases hv:v=.slice none 0 0
 ·subst hv
  have hl0:zs=[]:=by
   rcases h.2 with ⟨_,h2⟩ | ⟨g,cap,cur,h2,_⟩
   ·exact List.eq_nil_of_length_eq_zero h2
   ·cases h2
  subst hl0
  refine Calls.mono (AnyM.slices_Sort_string_none laysSlM6_f73 none 0 w) ?_
  rintro e w' ⟨rfl,rfl⟩
  exact ⟨rfl,(by unfold srtT;rw [List.mergeSort_nil];exact h),Below.refl _ _,fun _ _ _=>rfl⟩
 ·obtain ⟨g,cap,rfl,hb,hg,hc,hm,hlen,hH⟩:=holds_of_ownsRow (enc:=encStr) h hv
  refine Calls.mono (AnyM.slices_Sort_string laysSlM6_f73 g 0 cap zs w hH hg (by omega)) ?_
  rintro e w' ⟨rfl,n,os,rfl⟩
  have h1:=ownsRow_putRow (enc:=encStr) (q:=n) (k:=zs.length) (ys:=srtT zs) h (srtT_length zs) (Nat.le_refl _)
  have hb1:=below_putRow (enc:=encStr) (q:=n) (d:=(srtT zs).toArray) (Below.refl B w) hb
  refine ⟨rfl,?_,hb1.trans (below_grow os (by have:=hb1.size;omega)),fun k hk hne=>?_⟩
  ·rw [List.take_of_length_le (by rw [srtT_length];omega)] at h1
   exact own_kept h1 (below_grow os (Nat.le_refl _))
  ·have hkg:k≠g:=fun e=>hne (by rw [e];rfl)
   have h2:=putRow_block (enc:=encStr) (w:=w) (q:=n) (d:=(srtT zs).toArray) hkg
   have h3:=hb1.size
   exact ((below_grow (w:=Sort.putRow encStr (Sort.ahead w n) g 0 (srtT zs).toArray) os (Nat.le_refl _)).block k (Nat.lt_of_lt_of_le hk h3)).trans h2
theorem compactS_own {w:World} {B:Nat} {v:Value} {zs:List (List UInt8)} (h:w.ownsRow B 9 1 v zs.length (zs.map encStr)) (hl:zs.length<=256) (hB:B<=w.heap.size) :
  Calls Tryz.prog 209 #[v] w fun e w'=>(∃ v',e=.returned v'/\w'.ownsRow B 9 1 v' (Lib.compact zs).length ((Lib.compact zs).map encStr))/\Below B w w'/\∀ k,k<w.heap.size->v.ownBlock≠some k->w'.heap[k]?=w.heap[k]?:=by
 by_cases hv:v=.slice none 0 0
 ·subst hv
  have hl0:zs=[]:=by
   rcases h.2 with ⟨_,h2⟩ | ⟨g,cap,cur,h2,_⟩
   ·exact List.eq_nil_of_length_eq_zero h2
   ·cases h2
  subst hl0
  refine Calls.mono (AnyG.slices_Compact_string_empty laysSlN44_f74 none 0 w) ?_
  rintro e w' ⟨rfl,rfl⟩
  exact ⟨⟨_,rfl,h⟩,Below.refl _ _,fun _ _ _=>rfl⟩
 ·obtain ⟨g,cap,rfl,hb,hg,hc,hm,hlen,hH⟩:=holds_of_ownsRow (enc:=encStr) h hv
  have hle:=Lib.compact_length_le zs
  refine Calls.mono (AnyG.slices_Compact_string laysSlN44_f74 g 0 cap zs w hH (by omega) (by omega)) ?_
  rintro e w' ⟨rfl,q,rfl⟩
  have h1:=ownsRow_putRow (enc:=encStr) (q:=q) (k:=(Lib.compact zs).length) (ys:=Lib.compact zs++List.replicate (zs.length-(Lib.compact zs).length) []) h (by simp;omega) (by omega)
  rw [List.take_left] at h1
  exact ⟨⟨_,rfl,h1⟩,below_putRow (enc:=encStr) (Below.refl B w) hb,fun k hk hne=>putRow_block (fun e=>hne (by rw [e];rfl))⟩
theorem plT_less {u:List (List Nat)} {x:List Nat} (hr:RisT u) (hx:x∈u) {t:Nat} (ht:t<u.length):u[t]<x↔t<plT u x:=by
 obtain ⟨h1,h2⟩:=plT_get hx
 rw [List.getElem?_eq_getElem h1] at h2
 have h3:u[plT u x]=x:=Option.some.inj h2
 have hp:=List.pairwise_iff_getElem.1 hr
 constructor
 ·intro h
  rcases Nat.lt_or_ge t (plT u x) with h4 | h4
  ·exact h4
  ·rcases Nat.lt_or_ge (plT u x) t with h5 | h5
   ·have h6:=hp _ _ h1 ht h5
    rw [h3] at h6
    exact absurd (txt_trans h h6) (List.lt_irrefl _)
   ·obtain rfl:t=plT u x:=by omega
    rw [h3] at h
    exact absurd h (List.lt_irrefl _)
 ·intro h
  have:=hp _ _ ht h1 h
  rwa [h3] at this
theorem searchS_any {w:World} {v:Value} {u:List (List Nat)} (hs:Sv w v (svalsC u)) (hl:u.length<=256) (hr:RisT u) (hu:∀ s∈u,Bs s) {x:List Nat} (hx:x∈u) :
  Calls Tryz.prog 234 #[v,.string (bytesT x)] w fun e w'=>(∃ r,e=.returned (.tuple #[.int .i64 (plT u x:Nat),r]))/\Below w.heap.size w w':=by
 have hs0:=hs
 obtain ⟨a,cap,rfl,h1,h2,h3,h4⟩:=hs
 rw [svals_lengthC] at *
 have hpos:0<u.length:=List.length_pos_of_mem hx
 obtain ⟨b,off,rfl,h6,h7⟩:=h4 hpos
 refine Calls.mono (Any2.slices_BinarySearch_string lays2n26 b off u.length cap (fun t=>(u.map bytesT).getD t (bytesT x)) (bytesT x) w (by omega) ?_) ?_
 ·intro j hj
  have:=h7 j _ (svals_getC hj)
  rw [this,txt_eq]
  simp [List.getD_eq_getElem?_getD,hj]
 ·rintro e w' ⟨rfl,q,rfl⟩
  have hk:=(plT_get hx).1
  have hbs:Lib.bsGo (fun t=>Op.bytesLess ((u.map bytesT).getD t (bytesT x)).toList (bytesT x).toList) u.length 0 u.length=plT u x:=by
   refine Lib.bsGo_spec _ (plT u x) ?_ ?_ _ _ _ (by omega) (by omega) (by omega)
   ·intro t ht
    have htl:t<u.length:=by omega
    have e1:(u.map bytesT).getD t (bytesT x)=bytesT u[t]:=by simp [List.getD_eq_getElem?_getD,htl]
    simp only [e1,bytesT_toList]
    rw [less_txt (hu _ (List.getElem_mem htl)) (hu _ hx)]
    exact decide_eq_true ((plT_less hr hx htl).2 ht)
   ·intro t ht
    rcases Nat.lt_or_ge t u.length with htl | htl
    ·have e1:(u.map bytesT).getD t (bytesT x)=bytesT u[t]:=by simp [List.getD_eq_getElem?_getD,htl]
     simp only [e1,bytesT_toList]
     rw [less_txt (hu _ (List.getElem_mem htl)) (hu _ hx)]
     refine decide_eq_false (fun h=>?_)
     have:=(plT_less hr hx htl).1 h
     omega
    ·have e1:(u.map bytesT).getD t (bytesT x)=bytesT x:=by
      rw [List.getD_eq_getElem?_getD,List.getElem?_eq_none (by rw [List.length_map];omega)]
      rfl
     simp only [e1,bytesT_toList]
     rw [less_txt (hu _ hx) (hu _ hx)]
     exact decide_eq_false (List.lt_irrefl _)
  rw [hbs]
  exact ⟨⟨_,rfl⟩,below_drewN (Below.refl _ _) q⟩
end Go.Proofs.YtpljdjmpamjkhaaGreatDoor
set_option linter.unusedVariables false
set_option linter.unusedSimpArgs false
set_option maxRecDepth 100000
set_option maxHeartbeats 2000000
namespace Go.Proofs.YtpljdjmpamjkhaaGreatDoor
open Go.RowKit Go.Lib
theorem cplaces_any {w:World} {vu v:Value} {u l:List (List Nat)} (hu:Sv w vu (svalsC u)) (hs:Sv w v (svalsC l)) (hl:l.length<=256) (hul:u.length<=256) (hr:RisT u) (hub:∀ s∈u,Bs s) (hm:∀ x∈l,x∈u) :
  Calls Tryz.prog 211 #[vu,v] w fun e w'=>(∃ v',e=.returned v'/\OwnI w' w.heap.size v' (l.map fun s=>(plT u s:Int)))/\Below w.heap.size w w':=by
 obtain ⟨i0,hi,hz0,hz1',hz2⟩:=info_parts info2
 have HU:=hidden hu
 have HS:=hidden hs
 have HR:=hidden hr
 have HM:=hidden hm
 have HUB:=hidden hub
 obtain ⟨a,cap,rfl,hcap,hcm⟩:=hs.form1
 rw [svals_lengthC] at *
 have hcm':cap<=9223372036854775807:=by unfold maxLen at hcm;omega
 clear hs hu hcm hr hm hub
 obtain ⟨D,hD⟩:∃ D,(l.map fun s=>(plT u s:Int))=D:=⟨_,rfl⟩
 have hDl:D.length=l.length:=by rw [← hD,List.length_map]
 have HDG:Hid (∀ k (h:k<l.length),(ivals D)[k]?=some (.int .i64 (plT u l[k]:Nat))):=hidden (fun k h=>by rw [← hD];simp [ivals,h])
 rw [hD]
 have HDL:=hidden hDl
 clear hD hDl
 go_enter Tryz.func211,Tryz.ntmps211
 go_wp2_with (first | (refine wpList_make_full _ rfl _ _ 143 rfl w.heap.size 2 i0 (.int .i64 0) 1 Tryz.underlying143 hi hz0 hz1' .i64 .i64 _ _ l.length rfl rfl ?m1 ?m2 ?m3 ?m4 ?m5 ?_))
 case m1=>rfl
 case m2=>rfl
 case m3=>rw [hz2];omega
 case m4=>unfold maxLen;omega
 case m5=>omega
 intro w4 ho4 hg4
 have hb4:Below w.heap.size w w4:=(Below.refl _ _).grown hg4 (Nat.le_refl _) (fun k hk=>by cases hk)
 have ho4':w4.ownsRow w.heap.size 2 1 (.slice (some ⟨w.heap.size,0,none⟩) l.length l.length) l.length (fillV (.int .i64 0) (ivals D) 0):=by
  rw [fillV_zero,ivals_length,HDL.out,← toList_madeCells_one]
  simpa using ho4
 have HO4:=hidden ho4'
 have HB4:=hidden hb4
 clear ho4 hg4 hb4 ho4'
 go_wp2_with fail
 go_loopw [15] (fun i wr=>∃ k:Nat,i=.int .i64 (k:Int)/\k<=l.length/\wr.ownsRow w.heap.size 2 1 (.slice (some ⟨w.heap.size,0,none⟩) l.length l.length) l.length (fillV (.int .i64 0) (ivals D) k)/\Below w.heap.size w wr) (fun i _=>l.length-(intOf i).toNat)
 case atStart=>exact ⟨0,rfl,by omega,HO4.out,HB4.out⟩
 case round =>
  obtain ⟨k,rfl,hk,how,hbel⟩:=hrel
  have HB:=hidden hbel
  have HO:=hidden how
  have hzr:=hbel.size
  clear hbel how
  by_cases hlt:k<l.length
  ·have hkD:k<(ivals D).length:=by rw [ivals_length,HDL.out];exact hlt
   have hval:(ivals D)[k]=.int .i64 (plT u l[k]:Nat):=by
    have:=HDG.out k hlt
    rw [List.getElem?_eq_getElem hkD] at this
    exact Option.some.inj this
   obtain ⟨b,off,rfl,hb,hck⟩:=(HS.out.kept HB.out).at1 (svals_getC hlt)
   have hmem:=HM.out l[k] (List.getElem_mem hlt)
   have HSr:=hidden (searchS_any (HU.out.kept HB.out) hul HR.out HUB.out hmem)
   have hplt:=(plT_get hmem).1
   have hfl:k<(fillV (.int .i64 0) (ivals D) k).length:=by rw [fillV_length (by omega)];exact hkD
   have HFS:=hidden (fillV_set (z:=.int .i64 0) hkD)
   rw [hval] at HFS
   rw [txt_eq] at hck
   clear hval hmem
   generalize bytesT l[k]=S at *
   generalize plT u l[k]=pz at *
   generalize hy:(fillV (.int .i64 0) (ivals D) k)[k]=y
   have hyy:=List.getElem?_eq_getElem hfl
   rw [hy] at hyy
   clear hy
   go_wp2_with fail
   refine HSr.out.mono ?_
   rintro e w5 ⟨⟨r,rfl⟩,hb5⟩
   have ho5:=own_kept HO.out hb5
   have HB5:=hidden (HB.out.trans (hb5.mono hzr))
   have hck5:=(ho5.cellAt k (by omega)).trans hyy
   have hfr5:=ho5.frozenAt k
   have hST:=ho5.stored k (.int .i64 (pz:Nat))
   rw [HFS.out] at hST
   have HST:=hidden hST
   have hgz:=(ho5.lt w.heap.size rfl).2
   clear hST hb5 ho5
   go_wp2_with fail
   go_roundw
   case rel=>exact ⟨k+1,by go_num,by omega,HST.out.1,below_set HB5.out (Nat.le_refl _) _⟩
   case measure=>simp [intOf];omega
  ·obtain rfl:k=l.length:=by omega
   have e:fillV (.int .i64 0) (ivals D) l.length=ivals D:=by
    have:=fillV_all (.int .i64 0) (ivals D)
    rwa [ivals_length,HDL.out] at this
   rw [e] at HO
   have HO':Hid (OwnI wr w.heap.size (.slice (some ⟨w.heap.size,0,none⟩) l.length l.length) D):=hidden (by
    unfold OwnI
    rw [HDL.out]
    exact HO.out)
   clear HO e
   go_wp2_with fail
   go_ret
   exact ⟨⟨_,rfl,HO'.out⟩,HB.out⟩
theorem kept_cell {W W':World} {B p:Nat} {x:Value} (h:W.cell? ⟨p,0,none⟩=some x) (hb:Below B W W') (hp:p<B):W'.cell? ⟨p,0,none⟩=some x:=(hb.cell (p:=⟨p,0,none⟩) hp).trans h
theorem txts_len {l:List (List Nat)} (ht:Ts l) (hl:l.length<=256):(txts l).length<=21525:=(txts_size ht hl).1
theorem eachText1_any {w:World} {g p:Nat} {v vl:Value} {l:List (List Nat)} (hg:Gs w g v []) (hp:p<g) (hc:w.cell? ⟨p,0,none⟩=some vl) (hs:Sv w vl (svalsC l)) (hlow:∀ k,vl.ownBlock=some k->k<g) (hl:l.length<=256) (ht:Ts l) :
  Calls Tryz.prog 205 #[.func (.func 168) #[] #[.pointer (some ⟨g,0,none⟩)],.pointer (some ⟨p,0,none⟩)] w (PutsPost w g (plain l)):=by
 have HG:=hidden hg
 have hglt:=hg.lt
 have HC:=hidden hc
 have HS:=hidden hs
 have HLOW:=hidden hlow
 have HT:=hidden ht
 have HP1:=hidden (cput_any (hg.kept (below_one w (.cells #[.int .u8 0] 5))) (lit_own w 0).sv (by simp))
 have hz1:(w.alloc (.cells #[.int .u8 0] 5)).heap.size=w.heap.size+1:=World.size_alloc _ _
 clear hg hc hs hlow ht
 go_enter Tryz.func205,Tryz.ntmps205
 go_wp2_with fail
 refine HP1.out.mono ?_
 rintro e w1 ⟨rfl,⟨v1,hg1⟩,hb1,_⟩
 have HB1:=hidden (((below_one w (.cells #[.int .u8 0] 5)).mono (Nat.le_of_lt hglt)).trans hb1)
 have hc1:=kept_cell HC.out HB1.out hp
 have HP2:=hidden (putLens_any hg1 (by simp) (HS.out.keptB HLOW.out HB1.out) HLOW.out hl HT.out)
 obtain ⟨a,cap,rfl,_,_⟩:=HS.out.form1
 clear hg1 hb1
 go_wp2_with fail
 refine HP2.out.mono ?_
 rintro e w2 ⟨rfl,⟨v2,hg2⟩,hb2⟩
 have HG2:=hidden hg2
 have HB2:=hidden (HB1.out.trans hb2)
 clear hg2 hb2
 go_wp2_with fail
 go_end0
 exact ⟨rfl,⟨_,HG2.out⟩,HB2.out⟩
theorem eachText_any {w:World} {vl:Value} {l:List (List Nat)} (hs:Sv w vl (svalsC l)) (hlow:∀ k,vl.ownBlock=some k->k<w.heap.size) (hl:l.length<=256) (ht:Ts l) :
  Calls Tryz.prog 172 #[vl] w (Told w (plain l)):=by
 obtain ⟨a,cap,rfl,_,_⟩:=hs.form1
 have HGA:=hidden (gather70 (w:=w.alloc (.cells #[.slice a (svalsC l).length cap] 144)) (p:=.pointer (some ⟨w.heap.size,0,none⟩)) (bs:=plain l) (fun W hg hb=>by
  have hz:=World.size_alloc w (.cells #[.slice a (svalsC l).length cap] 144)
  refine eachText1_any hg (by omega) ?_ ((hs.kept (below_one w _)).kept hb) (fun k hk=>by have:=hlow k hk;omega) hl ht
  rw [hb.cell (p:=⟨w.heap.size,0,none⟩) (by show w.heap.size<_;omega)]
  exact cell_new _ _ _))
 have HB:=hidden (below_one w (.cells #[.slice a (svalsC l).length cap] 144))
 have hz:=World.size_alloc w (.cells #[.slice a (svalsC l).length cap] 144)
 clear hs hlow ht
 generalize plain l=bs at *
 generalize (svalsC l).length=n at *
 go_enter Tryz.func172,Tryz.ntmps172
 go_wp2_with fail
 refine HGA.out.mono ?_
 rintro e w1 ⟨⟨v1,rfl,ho1⟩,hb1⟩
 have HO1:=hidden (ho1.low (B:=w.heap.size) (by omega))
 have HB1:=hidden (HB.out.trans (hb1.mono (by omega)))
 clear ho1 hb1
 go_wp2_with fail
 go_ret
 exact ⟨⟨_,rfl,HO1.out⟩,HB1.out⟩
end Go.Proofs.YtpljdjmpamjkhaaGreatDoor
set_option linter.unusedVariables false
set_option linter.unusedSimpArgs false
set_option maxRecDepth 100000
set_option maxHeartbeats 4000000
namespace Go.Proofs.YtpljdjmpamjkhaaGreatDoor
open Go.RowKit Go.Lib
theorem byPlaces1_any {w:World} {g p q:Nat} {v vl vu:Value} {l:List (List Nat)} (hg:Gs w g v []) (hp:p<g) (hq:q<g) (hcu:w.cell? ⟨q,0,none⟩=some vu) (hcl:w.cell? ⟨p,0,none⟩=some vl)
  (hs:Sv w vl (svalsC l)) (hlow:∀ k,vl.ownBlock=some k->k<g) (hu:Sv w vu (svalsC (tuq l))) (hulow:∀ k,vu.ownBlock=some k->k<g) (hl:l.length<=256) (ht:Ts l) :
  Calls Tryz.prog 210 #[.func (.func 168) #[] #[.pointer (some ⟨g,0,none⟩)],.pointer (some ⟨q,0,none⟩),.pointer (some ⟨p,0,none⟩)] w (PutsPost w g (listed l)):=by
 have hglt:=hg.lt
 have HCU:=hidden hcu
 have HCL:=hidden hcl
 have HS:=hidden hs
 have HU:=hidden hu
 have HLOW:=hidden hlow
 have HULOW:=hidden hulow
 have HT:=hidden ht
 have hul:(tuq l).length<=256:=by have:=tuq_length l;omega
 have htxl:=txts_len (tuq_ts ht) hul
 have hbl:=bstC_len (placesT_i64 hl) (by rw [placesT_length];exact hl)
 have HLI:Hid (listed l=1::(uv (tuq l).length++(txts (tuq l)++bstC (placesT l)))):=rfl
 have h10:=uv_ten (n:=(tuq l).length) (by omega)
 have HP1:=hidden (cput_any (hg.kept (below_one w (.cells #[.int .u8 1] 5))) (lit_own w 1).sv (by simp))
 have hz1:(w.alloc (.cells #[.int .u8 1] 5)).heap.size=w.heap.size+1:=World.size_alloc _ _
 obtain ⟨a,cap,rfl,_,_⟩:=hs.form1
 obtain ⟨au,capu,rfl,_,_⟩:=hu.form1
 rw [svals_lengthC] at *
 have HPU:=hidden (vput_told (tuq l).length (by omega))
 clear hg hcl hs hlow ht hu hulow
 go_enter Tryz.func210,Tryz.ntmps210
 go_wp2_with fail
 refine HP1.out.mono ?_
 rintro e w1 ⟨rfl,⟨v1,hg1⟩,hb1,_⟩
 have HB1:=hidden (((below_one w (.cells #[.int .u8 1] 5)).mono (Nat.le_of_lt hglt)).trans hb1)
 have HG1:=hidden hg1
 have hcu1:=kept_cell HCU.out HB1.out hq
 clear hg1 hb1 hcu
 go_wp2_with fail
 refine (HPU.out _).mono ?_
 rintro e w2 ⟨⟨v2,rfl,ho2⟩,hb2⟩
 have HP2:=hidden (cput_any (HG1.out.kept hb2) ho2.sv (by simp;omega))
 have HB2:=hidden (HB1.out.trans (hb2.mono (Nat.le_of_lt HG1.out.lt)))
 clear ho2 hb2 hcu1
 go_wp2_with fail
 refine HP2.out.mono ?_
 rintro e w3 ⟨rfl,⟨v3,hg3⟩,hb3,_⟩
 have HB3:=hidden (HB2.out.trans hb3)
 have hcu3:=kept_cell HCU.out HB3.out hq
 have HP3:=hidden (putLens_any hg3 (by simp;omega) (HU.out.keptB HULOW.out HB3.out) HULOW.out hul (tuq_ts HT.out))
 clear hg3 hb3
 go_wp2_with fail
 refine HP3.out.mono ?_
 rintro e w4 ⟨rfl,⟨v4,hg4⟩,hb4⟩
 have HB4:=hidden (HB3.out.trans hb4)
 have HG4:=hidden hg4
 have hcu4:=kept_cell HCU.out HB4.out hq
 have hcl4:=kept_cell HCL.out HB4.out hp
 have HP4:=hidden (cplaces_any (HU.out.keptB HULOW.out HB4.out) (HS.out.keptB HLOW.out HB4.out) hl hul (tuq_rising l) (fun s hs=>(tuq_ts HT.out s hs).2) (fun x hx=>mem_tuq.2 hx))
 clear hg4 hb4 hcu3
 go_wp2_with fail
 refine HP4.out.mono ?_
 rintro e w5 ⟨⟨v5,rfl,ho5⟩,hb5⟩
 have hG5:=HG4.out.kept hb5
 have HG5:=hidden hG5
 have HB5:=hidden (HB4.out.trans (hb5.mono (Nat.le_of_lt HG4.out.lt)))
 have HP5:=hidden (cbest_any (l:=placesT l) ho5.sv (by rw [placesT_length];exact hl) (placesT_i64 hl))
 clear ho5 hb5 hcu4 hcl4 hG5
 go_wp2_with fail
 refine HP5.out.mono ?_
 rintro e w6 ⟨⟨v6,rfl,ho6⟩,hb6⟩
 have HP6:=hidden (cput_any (HG5.out.kept hb6) ho6.sv (by simp;omega))
 have HB6:=hidden (HB5.out.trans (hb6.mono (Nat.le_of_lt HG5.out.lt)))
 clear ho6 hb6
 go_wp2_with fail
 refine HP6.out.mono ?_
 rintro e w7 ⟨rfl,⟨v7,hg7⟩,hb7,_⟩
 have HG7:Hid (Gs w7 g v7 (listed l)):=hidden (by
  rw [HLI.out]
  simpa [List.append_assoc] using hg7)
 have HB7:=hidden (HB6.out.trans hb7)
 clear hg7 hb7
 go_wp2_with fail
 go_end0
 exact ⟨rfl,⟨_,HG7.out⟩,HB7.out⟩
theorem heap_cells {W:World} {p T:Nat} {c:Array Value} (h:W.heap[p]?=some (.cells c T (0,0))) (hc:0<c.size):W.cell? ⟨p,0,none⟩=some c[0]/\W.frozen? ⟨p,0,none⟩=false :=
 ⟨by rw [cell_block h];simp [hc],by simp [World.frozen?,h]⟩
theorem own_set_ne {w:World} {B e size n q i:Nat} {v x:Value} {xs:List Value} (h:w.ownsRow B e size v n xs) (hq:∀ k,v.ownBlock=some k->k≠q):(w.setCell ⟨q,i,none⟩ x).ownsRow B e size v n xs:=by
 obtain ⟨h0,h | ⟨g,cap,cur,rfl,h2,h3,h4⟩⟩:=h
 ·exact ⟨h0,Or.inl h⟩
 ·exact ⟨h0,Or.inr ⟨g,cap,cur,rfl,h2,(Below.heap_setCell _ _ _ _ (hq g rfl)).trans h3,h4⟩⟩
theorem own_type_ne {w:World} {B e n q T:Nat} {v:Value} {xs:List Value} {c:Array Value} (h:w.ownsRow B e 1 v n xs) (hq:w.heap[q]?=some (.cells c T (0,0))) (hT:T≠e):∀ k,v.ownBlock=some k->k≠q:=by
 intro k hk e1
 subst e1
 obtain ⟨h0,⟨rfl,_⟩ | ⟨g,cap,cur,rfl,h2,h3,h4⟩⟩:=h
 ·cases hk
 ·cases hk
  rw [hq] at h3
  cases h3
  exact hT rfl
theorem byPlaces_any {w:World} {vl:Value} {l:List (List Nat)} (hs:Sv w vl (svalsC l)) (hlow:∀ k,vl.ownBlock=some k->k<w.heap.size) (hl:l.length<=256) (ht:Ts l) :
  Calls Tryz.prog 173 #[vl] w (Told w (listed l)):=by
 obtain ⟨a,cap,rfl,_,_⟩:=hs.form1
 have HS:=hidden hs
 have HLOW:=hidden hlow
 have HT:=hidden ht
 rw [svals_lengthC] at *
 have HBX:=hidden (below_one w (.cells #[.slice a l.length cap] 144))
 have hzx:=World.size_alloc w (.cells #[.slice a l.length cap] 144)
 have HCX:=hidden (cell_new w (.slice a l.length cap) 144)
 have HCL:=hidden (cloneS_any (hs.kept HBX.out) hl)
 clear hs hlow ht
 go_enter Tryz.func173,Tryz.ntmps173
 go_wp2_with fail
 refine HCL.out.mono ?_
 rintro e w1 ⟨⟨v1,rfl,ho1⟩,hb1⟩
 have HO1:=hidden ho1
 have HB1:=hidden hb1
 have hz1:=hb1.size
 obtain ⟨a1,c1,rfl,_,_⟩:=own_slice ho1
 have HA2:Hid ((w1.alloc (.cells #[.slice a1 l.length c1] 144)).heap[w1.heap.size]?=some (.cells #[.slice a1 l.length c1] 144 (0,0))):=hidden (heap_alloc_new _ _)
 have hz2:=World.size_alloc w1 (.cells #[.slice a1 l.length c1] 144)
 have hO2:=HO1.out.kept (below_one w1 (.cells #[.slice a1 l.length c1] 144))
 have HO2:=hidden hO2
 have hb2:=HB1.out.trans ((below_one w1 (.cells #[.slice a1 l.length c1] 144)).mono hz1)
 have HB2:=hidden hb2
 have hlu:(upT l).length=l.length:=up_length l
 have hS2:(w1.alloc (.cells #[.slice a1 l.length c1] 144)).ownsRow (w.alloc (.cells #[.slice a l.length cap] 144)).heap.size 9 1 (.slice a1 l.length c1) (upT l).length ((upT l).map encStr):=by
  rw [hlu,← svals_up]
  exact hO2
 have HSO:=hidden (sortS_own hS2 (by omega) (by omega))
 clear ho1 hb1 hO2 hb2 hS2 hlu
 go_wp2_with fail
 refine HSO.out.mono ?_
 rintro e w3 ⟨rfl,ho3,hb3,hk3⟩
 have hlu:(upT l).length=l.length:=up_length l
 have hlt1:∀ k,(Value.slice a1 l.length c1).ownBlock=some k->k<w1.heap.size:=fun k hk=>(HO1.out.lt k hk).2
 have hq3:w3.heap[w1.heap.size]?=some (.cells #[.slice a1 l.length c1] 144 (0,0)):=(hk3 w1.heap.size (by omega) (fun e=>by have:=hlt1 _ e;omega)).trans HA2.out
 have HQ3:=hidden hq3
 obtain ⟨hc3,hf3⟩:=heap_cells hq3 (by simp)
 have hz3:=hb3.size
 have HB3:=hidden (HB2.out.trans hb3)
 have hls:(srtT (upT l)).length=l.length:=by rw [srtT_length];exact hlu
 have ho3':w3.ownsRow (w.alloc (.cells #[.slice a l.length cap] 144)).heap.size 9 1 (.slice a1 l.length c1) (srtT (upT l)).length ((srtT (upT l)).map encStr):=by
  rw [srtT_length]
  exact ho3
 have HCO:=hidden (compactS_own ho3' (by omega) (by omega))
 rw [compact_up (fun s hs=>(HT.out s hs).2),← svals_up,up_length] at HCO
 simp only [List.getElem_toArray,List.getElem_cons_zero] at hc3
 clear ho3 ho3' hb3 hk3 hq3 hls hlu
 go_wp2_with fail
 refine HCO.out.mono ?_
 rintro e w4 ⟨⟨v4,rfl,ho4⟩,hb4,hk4⟩
 have hq4:w4.heap[w1.heap.size]?=some (.cells #[.slice a1 l.length c1] 144 (0,0)):=(hk4 w1.heap.size (by omega) (fun e=>by have:=hlt1 _ e;omega)).trans HQ3.out
 obtain ⟨hc4,hf4⟩:=heap_cells hq4 (by simp)
 simp only [List.getElem_toArray,List.getElem_cons_zero] at hc4
 have hz4:=hb4.size
 have HB4:=hidden (HB3.out.trans hb4)
 obtain ⟨a4,c4,rfl,_,_⟩:=own_slice ho4
 have hne4:=own_type_ne ho4 hq4 (by decide)
 have hO5:=own_set_ne (i:=0) (x:=.slice a4 (tuq l).length c4) ho4 hne4
 have hq5:=heap_setC hq4 0 (.slice a4 (tuq l).length c4)
 have HB5:=hidden (HB4.out.setCell (p:=⟨w1.heap.size,0,none⟩) (by show _<=w1.heap.size;omega) (.slice a4 (tuq l).length c4))
 have hz5:(w4.setCell ⟨w1.heap.size,0,none⟩ (.slice a4 (tuq l).length c4)).heap.size=w4.heap.size:=World.size_setCell _ _ _
 have HGA:=hidden (gather75 (w:=w4.setCell ⟨w1.heap.size,0,none⟩ (.slice a4 (tuq l).length c4)) (p:=.pointer (some ⟨w1.heap.size,0,none⟩)) (q:=.pointer (some ⟨w.heap.size,0,none⟩)) (bs:=listed l) (fun W hg hb=>by
  have hbl:Below (w.alloc (.cells #[.slice a l.length cap] 144)).heap.size (w.alloc (.cells #[.slice a l.length cap] 144)) W:=HB5.out.trans (hb.mono (by omega))
  have hbw:Below w.heap.size w W:=HBX.out.trans (hbl.mono (by omega))
  refine byPlaces1_any (vu:=.slice a4 (tuq l).length c4) hg (by omega) (by omega) ?_ ?_ (HS.out.kept hbw) (fun k hk=>by have:=HLOW.out k hk;omega) ?_ (fun k hk=>?_) hl HT.out
  ·rw [hb.cell (p:=⟨w1.heap.size,0,none⟩) (by show w1.heap.size<_;omega),cell_block hq5]
   rfl
  ·rw [hbl.cell (p:=⟨w.heap.size,0,none⟩) (by show w.heap.size<_;omega)]
   exact HCX.out
  ·exact (Sv.of_own hO5).kept hb
  ·have:=(hO5.lt k hk).2
   omega))
 clear ho4 hb4 hk4 hq4 hne4 hO5 hq5
 generalize listed l=bs at *
 generalize tuq l=ul at *
 go_wp2_with fail
 refine HGA.out.mono ?_
 rintro e w6 ⟨⟨v6,rfl,ho6⟩,hb6⟩
 have HO6:=hidden (ho6.low (B:=w.heap.size) (by omega))
 have HB6:=hidden (HBX.out.trans ((HB5.out.trans (hb6.mono (by omega))).mono (by omega)))
 clear ho6 hb6
 go_wp2_with fail
 go_ret
 exact ⟨⟨_,rfl,HO6.out⟩,HB6.out⟩
theorem bestTexts_any {w:World} {vl:Value} {l:List (List Nat)} (hs:Sv w vl (svalsC l)) (hlow:∀ k,vl.ownBlock=some k->k<w.heap.size) (hl:l.length<=256) (ht:Ts l) :
  Calls Tryz.prog 130 #[vl] w (Told w (wordsB l)):=by
 have HE:=hidden (eachText_any hs hlow hl ht)
 have HP:=hidden (fun (W:World) (hb:Below w.heap.size w W)=>byPlaces_any (hs.kept hb) (fun k hk=>Nat.lt_of_lt_of_le (hlow k hk) hb.size) hl ht)
 have HW:Hid (wordsB l=if (listed l).length<(plain l).length then listed l else plain l):=rfl
 clear hs hlow ht
 generalize wordsB l=wb at *
 generalize listed l=bl at *
 generalize plain l=bp at *
 go_enter Tryz.func130,Tryz.ntmps130
 go_wp2_with fail
 refine HE.out.mono ?_
 rintro e w1 ⟨⟨v1,rfl,ho1⟩,hb1⟩
 have HO1:=hidden ho1
 have HB1:=hidden hb1
 have hz1:=hb1.size
 obtain ⟨a1,c1,rfl⟩:=ho1.len
 clear ho1 hb1
 go_wp2_with fail
 refine (HP.out _ HB1.out).mono ?_
 rintro e w2 ⟨⟨v2,rfl,ho2⟩,hb2⟩
 have HO1':=hidden (HO1.out.kept hb2)
 have HO2:=hidden (ho2.low hz1)
 have HB2:=hidden (HB1.out.trans (hb2.mono hz1))
 obtain ⟨a2,c2,rfl⟩:=ho2.len
 clear ho2 hb2
 by_cases h:bl.length<bp.length
 ·have h':(bl.length:Int)<(bp.length:Int):=by omega
  rw [if_pos h] at HW
  clear h
  go_wp2_with fail
  go_ret
  rw [HW.out]
  exact ⟨⟨_,rfl,HO2.out⟩,HB2.out⟩
 ·have h':¬ (bl.length:Int)<(bp.length:Int):=by omega
  rw [if_neg h] at HW
  clear h
  go_wp2_with fail
  go_ret
  rw [HW.out]
  exact ⟨⟨_,rfl,HO1'.out⟩,HB2.out⟩
end Go.Proofs.YtpljdjmpamjkhaaGreatDoor
