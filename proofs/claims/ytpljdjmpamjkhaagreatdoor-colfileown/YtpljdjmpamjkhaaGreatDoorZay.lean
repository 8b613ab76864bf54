/- Contracts of layer column: what is put behind what: put, and gather for each of its three closures. Contracts of layer column: putNulls. Contracts of layer column: counted, putLengthsAndBytes. Contracts of layer column: putLengthsAndBytes. -/
import Derived.Test.YtpljdjmpamjkhaaGreatDoorZav
import Derived.Test.YtpljdjmpamjkhaaGreatDoorZad
import Derived.Laws.IdiomStrings
set_option linter.unusedVariables false
set_option linter.unusedSimpArgs false
set_option maxRecDepth 100000
set_option maxHeartbeats 1000000
namespace Go.Proofs.YtpljdjmpamjkhaaGreatDoor
open Go.RowKit Go.Lib
theorem wpList_append_sg {w:World} {ops:Array Oper} {rest:List Oper} {o:Oper} {a:Act} {Q:Exit->Act->World->Prop} (hgd:o.guard=none) (s x:Operand)
  (ho:o.op=.call { callee:=.builtin .append,args:=#[s,x],argTypes:=#[30,30] })
  (base:Nat) (v vx:Value) (l0 l:List Nat) (hs:a.eval s=v) (hown:OwnB w base v l0) (hx:a.eval x=vx) (hsl:Sv w vx (vals .u8 l))
  (hbytes:l0.length+l.length<=140737488355328) (hbase:base<=w.heap.size)
  (h:∀ v' w',OwnB w' base v' (l0++l)->w.grownBy w' v.ownBlock->wpList Tryz.prog ops Q rest (a.put o.dst v') w') :
  wpList Tryz.prog ops Q (o::rest) a w:=by
 obtain ⟨i0,hi,hz0,hz1',hz2⟩:=info_parts info5
 unfold OwnB at *
 obtain ⟨ad,cap,rfl,h1,h2,h3,h4⟩:=hsl
 rw [vals_length] at *
 cases ad with
 | none =>
  have hc:=h3 rfl
  subst hc
  have hl:l=[]:=List.eq_nil_of_length_eq_zero (by omega)
  subst hl
  refine wpList_plain hgd fun K hK=>?_
  have hr:=run_append_owned_none (P:=Tryz.prog) (w:=w) base 30 o.type 5 i0 1 Tryz.underlying30 hi v l0.length (vals .u8 l0) hown
  unfold Oper.wp execOp
  simp only [ho,resolve,invoke,builtin,Sem.run_bind,Sem.run_pure,Result.andThen_ok,List.map_toArray,List.map_cons,List.map_nil,hs,hx,hr,List.length_nil]
  refine hK _ _ (h v w ?_ ⟨rfl,rfl,rfl,Nat.le_refl _,fun _ _ _=>rfl⟩)
  rw [List.append_nil]
  exact hown
 | some ad =>
  refine wpList_append_own_at (w:=w) hgd s x 30 ho base 5 i0 (.int .u8 0) 1 1 Tryz.underlying30 hi hz0 hz1' hz2 rfl (by decide) v l0.length (vals .u8 l0) hs hown ad l.length cap (vals .u8 l) hx (by rw [vals_length];omega) ?_ (vals_oneCell _ _) (by unfold maxLen;omega) (by omega) hbase ?_
  ·intro j u hu
   have hj:j<l.length:=by
    have:=(List.getElem?_eq_some_iff.1 hu).1
    rwa [vals_length] at this
   obtain ⟨b,off,h5,_,h6⟩:=h4 (by omega)
   cases h5
   rw [addj]
   exact h6 j u hu
  ·intro v' w' o1 g1 _ _
   refine h v' w' ?_ g1
   rw [vals_append,List.length_append]
   exact o1
def Gs (W:World) (g:Nat) (v:Value) (bs:List Nat):Prop:=W.heap[g]?=some (.cells #[v] 30 (0,0))/\OwnB W (g+1) v bs
theorem Gs.lt {W:World} {g:Nat} {v:Value} {bs:List Nat} (h:Gs W g v bs):g<W.heap.size:=(Array.getElem?_eq_some_iff.1 h.1).1
theorem Gs.kept {W W':World} {g:Nat} {v:Value} {bs:List Nat} (h:Gs W g v bs) (hb:Below W.heap.size W W'):Gs W' g v bs:=⟨(hb.block g h.lt).trans h.1,h.2.kept hb⟩
def PutPost (w:World) (g:Nat) (v:Value) (bs:List Nat) (e:Ending) (w':World):Prop :=
 e=.returned (.tuple #[])/\(∃ v',Gs w' g v' bs)/\Below g w w'/\∀ k,k<w.heap.size->k≠g->v.ownBlock≠some k->w'.heap[k]?=w.heap[k]?
def PutsPost (w:World) (g:Nat) (bs:List Nat) (e:Ending) (w':World):Prop:=e=.returned (.tuple #[])/\(∃ v',Gs w' g v' bs)/\Below g w w'
theorem cput_any {w:World} {g:Nat} {v vp:Value} {bs ps:List Nat} (h:Gs w g v bs) (hp:Sv w vp (vals .u8 ps)) (hl:bs.length+ps.length<=1000000) :
  Calls Tryz.prog 168 #[vp,.pointer (some ⟨g,0,none⟩)] w (PutPost w g v (bs++ps)):=by
 have hlt:=h.lt
 have HG:=hidden h
 have HP:=hidden hp
 have hc:w.cell? ⟨g,0,none⟩=some v:=by rw [cell_block h.1];rfl
 have hfz:w.frozen? ⟨g,0,none⟩=false:=by simp [World.frozen?,h.1]
 clear h hp
 go_enter Tryz.func168,Tryz.ntmps168
 go_wp2_with (first | (at_builtin;refine wpList_append_sg rfl _ _ rfl (g+1) _ _ bs ps rfl HG.out.2 rfl HP.out ?c1 ?c2 ?_))
 case c1=>omega
 case c2=>omega
 intro v' w1 o1 g1
 have hne:some g≠v.ownBlock:=fun e=>by
  have:=(HG.out.2.lt g e.symm).1
  omega
 have hh:w1.heap[g]?=some (.cells #[v] 30 (0,0)):=(g1.block g hlt hne).trans HG.out.1
 have hc1:w1.cell? ⟨g,0,none⟩=some v:=by rw [cell_block hh];rfl
 have hfz1:w1.frozen? ⟨g,0,none⟩=false:=by simp [World.frozen?,hh]
 obtain ⟨a1,c1,rfl⟩:=o1.len
 have HO1:=hidden o1
 have HG1:=hidden g1
 have HH:=hidden hh
 clear o1 g1 hh hc hfz
 go_wp2_with fail
 go_end0
 have hset:=heap_setC HH.out 0 (.slice a1 (bs++ps).length c1)
 rw [← List.length_append]
 refine ⟨rfl,⟨_,hset,?_⟩,?_,?_⟩
 ·have:=Fr.own (p:=g) ((Fr.refl g w1.heap.size w1).set 0 (.slice a1 (bs++ps).length c1)) HO1.out (by omega)
  exact this
 ·exact ((Below.refl g w).grown HG1.out (by omega) (fun k hk=>by have:=(HG.out.2.lt k hk).1;omega)).setCell (Nat.le_refl _) _
 ·intro k hk hkg hkv
  rw [Below.heap_setCell _ _ _ _ hkg]
  exact HG1.out.block k hk (fun e=>hkv e.symm)
theorem gather22 {w:World} {p q:Value} {bs:List Nat}
  (H:∀ W,Gs W w.heap.size (.slice none 0 0) []->Below w.heap.size w W->Calls Tryz.prog 124 #[.func (.func 168) #[] #[.pointer (some ⟨w.heap.size,0,none⟩)],p,q] W (PutsPost W w.heap.size bs)) :
  Calls Tryz.prog 123 #[.func (.func 124) #[] #[p,q]] w (Told w bs):=by
 have HH:=hidden H
 clear H
 go_enter Tryz.func123,Tryz.ntmps123
 go_wp2_with fail
 refine (HH.out _ ?g1 ?g2).mono ?_
 case g1=>exact ⟨heap_alloc_new _ _,OwnB.nil _ _⟩
 case g2=>exact below_one _ _
 rintro e w1 ⟨rfl,⟨v1,hg1⟩,hb1⟩
 have hc1:w1.cell? ⟨w.heap.size,0,none⟩=some v1:=by rw [cell_block hg1.1];rfl
 have HG1:=hidden hg1
 have HB1:=hidden ((below_one w (.cells #[.slice none 0 0] 30)).trans hb1)
 clear hg1 hb1
 go_wp2_with fail
 go_ret
 exact ⟨⟨_,rfl,HG1.out.2.low (by omega)⟩,HB1.out⟩
theorem gather70 {w:World} {p:Value} {bs:List Nat}
  (H:∀ W,Gs W w.heap.size (.slice none 0 0) []->Below w.heap.size w W->Calls Tryz.prog 205 #[.func (.func 168) #[] #[.pointer (some ⟨w.heap.size,0,none⟩)],p] W (PutsPost W w.heap.size bs)) :
  Calls Tryz.prog 123 #[.func (.func 205) #[] #[p]] w (Told w bs):=by
 have HH:=hidden H
 clear H
 go_enter Tryz.func123,Tryz.ntmps123
 go_wp2_with fail
 refine (HH.out _ ?g1 ?g2).mono ?_
 case g1=>exact ⟨heap_alloc_new _ _,OwnB.nil _ _⟩
 case g2=>exact below_one _ _
 rintro e w1 ⟨rfl,⟨v1,hg1⟩,hb1⟩
 have hc1:w1.cell? ⟨w.heap.size,0,none⟩=some v1:=by rw [cell_block hg1.1];rfl
 have HG1:=hidden hg1
 have HB1:=hidden ((below_one w (.cells #[.slice none 0 0] 30)).trans hb1)
 clear hg1 hb1
 go_wp2_with fail
 go_ret
 exact ⟨⟨_,rfl,HG1.out.2.low (by omega)⟩,HB1.out⟩
theorem gather75 {w:World} {p q:Value} {bs:List Nat}
  (H:∀ W,Gs W w.heap.size (.slice none 0 0) []->Below w.heap.size w W->Calls Tryz.prog 210 #[.func (.func 168) #[] #[.pointer (some ⟨w.heap.size,0,none⟩)],p,q] W (PutsPost W w.heap.size bs)) :
  Calls Tryz.prog 123 #[.func (.func 210) #[] #[p,q]] w (Told w bs):=by
 have HH:=hidden H
 clear H
 go_enter Tryz.func123,Tryz.ntmps123
 go_wp2_with fail
 refine (HH.out _ ?g1 ?g2).mono ?_
 case g1=>exact ⟨heap_alloc_new _ _,OwnB.nil _ _⟩
 case g2=>exact below_one _ _
 rintro e w1 ⟨rfl,⟨v1,hg1⟩,hb1⟩
 have hc1:w1.cell? ⟨w.heap.size,0,none⟩=some v1:=by rw [cell_block hg1.1];rfl
 have HG1:=hidden hg1
 have HB1:=hidden ((below_one w (.cells #[.slice none 0 0] 30)).trans hb1)
 clear hg1 hb1
 go_wp2_with fail
 go_ret
 exact ⟨⟨_,rfl,HG1.out.2.low (by omega)⟩,HB1.out⟩
end Go.Proofs.YtpljdjmpamjkhaaGreatDoor
set_option linter.unusedVariables false
set_option linter.unusedSimpArgs false
set_option maxRecDepth 100000
set_option maxHeartbeats 4000000
namespace Go.Proofs.YtpljdjmpamjkhaaGreatDoor
open Go.RowKit Go.Lib
theorem own_block {w w':World} {B e size n g cap:Nat} {xs:List Value} (h:w.ownsRow B e size (.slice (some ⟨g,0,none⟩) n cap) n xs) (hb:w'.heap[g]?=w.heap[g]?):w'.ownsRow B e size (.slice (some ⟨g,0,none⟩) n cap) n xs:=by
 obtain ⟨h0,h | ⟨g',cap',cur,h1,h2,h3,h4⟩⟩:=h
 ·exact ⟨h0,Or.inl h⟩
 ·cases h1
  exact ⟨h0,Or.inr ⟨g,cap,cur,rfl,h2,hb.trans h3,h4⟩⟩
theorem there_take_succ {l:List (Nat×Int×List Nat)} {j:Nat} (h:j<l.length):there (l.take (j+1))=there (l.take j)++[if l[j].1=0 then 0 else 1]:=by
 unfold there
 rw [List.take_succ_eq_append_getElem h,List.map_append]
 rfl
theorem headB_no {l:List (Nat×Int×List Nat)} (h:¬ 0∈there l):headB l=[0]:=if_neg h
theorem headB_yes {l:List (Nat×Int×List Nat)} (h:0∈there l):headB l=[1]++packR (there l) 1:=if_pos h
theorem packR_short {l:List Nat} (h:∀ x∈l,x<2) (hl:l.length<=256):(packR l 1).length<=32:=by
 rw [bits_length h hl]
 unfold by8
 omega
theorem putNulls_any {w:World} {g:Nat} {v vl:Value} {bs:List Nat} {l:List (Nat×Int×List Nat)} (hg:Gs w g v bs) (hbs:bs.length<=100000) (hs:Sv w vl (vvals l)) (hl:l.length<=256) :
  Calls Tryz.prog 125 #[.func (.func 168) #[] #[.pointer (some ⟨g,0,none⟩)],vl] w (PutsPost w g (bs++headB l)):=by
 obtain ⟨i0,hi,hz0,hz1',hz2⟩:=info_parts info92
 have HG:=hidden hg
 have hglt:=hg.lt
 have HS:=hidden hs
 obtain ⟨a,cap,rfl,hcap,hcm⟩:=hs.form1
 rw [vvals_length] at *
 have hcm':cap<=9223372036854775807:=by unfold maxLen at hcm;omega
 have H2:=hidden (there_two l)
 have HSH:=hidden (packR_short (there_two l) (by rw [there_length];exact hl))
 have HN:=hidden (headB_no (l:=l))
 have HY:=hidden (headB_yes (l:=l))
 obtain ⟨D,hD⟩:∃ D,there l=D:=⟨_,rfl⟩
 have hDl:D.length=l.length:=by rw [← hD,there_length]
 have HDG:Hid (∀ k (h:k<l.length),D[k]?=some (if l[k].1=0 then 0 else 1)):=hidden (fun k h=>by rw [← hD];simp [there,h])
 rw [hD] at H2 HSH HN HY
 have HD:=hidden hD
 have HDL:=hidden hDl
 clear hs hcm hD hDl hg
 go_enter Tryz.func125,Tryz.ntmps125
 go_wp2_with (first | (refine wpList_make_full _ rfl _ _ 142 rfl w.heap.size 92 i0 (.int .u64 0) 1 Tryz.underlying142 hi hz0 hz1' .i64 .i64 _ _ l.length rfl rfl ?m1 ?m2 ?m3 ?m4 ?m5 ?_))
 case m1=>rfl
 case m2=>rfl
 case m3=>rw [hz2];omega
 case m4=>unfold maxLen;omega
 case m5=>omega
 intro w4 ho4 hg4
 have hb4:Below w.heap.size w w4:=(Below.refl _ _).grown hg4 (Nat.le_refl _) (fun k hk=>by cases hk)
 have ho4':w4.ownsRow w.heap.size 92 1 (.slice (some ⟨w.heap.size,0,none⟩) l.length l.length) l.length (vals .u64 (fill D 0)):=by
  rw [fill_zero,HDL.out,← made_vals]
  simpa using ho4
 have HO4:=hidden ho4'
 have HB4:=hidden hb4
 clear ho4 hg4 hb4 ho4'
 go_wp2_with fail
 go_loopw [5,13] (fun o i wr=>∃ k:Nat,o=.bool (decide (0∈there (l.take k)))/\i=.int .i64 (k:Int)/\k<=l.length/\wr.ownsRow w.heap.size 92 1 (.slice (some ⟨w.heap.size,0,none⟩) l.length l.length) l.length (vals .u64 (fill D k))/\Below w.heap.size w wr) (fun _ i _=>l.length-(intOf i).toNat)
 case atStart=>exact ⟨0,rfl,rfl,by omega,HO4.out,HB4.out⟩
 case round =>
  obtain ⟨k,rfl,rfl,hk,how,hbel⟩:=hrel
  have HB:=hidden hbel
  have HO:=hidden how
  have hzr:=hbel.size
  clear hbel how
  by_cases hlt:k<l.length
  ·have hkD:k<D.length:=by rw [HDL.out];exact hlt
   have hval:D[k]=if l[k].1=0 then 0 else 1:=by
    have:=HDG.out k hlt
    rw [List.getElem?_eq_getElem hkD] at this
    exact Option.some.inj this
   obtain ⟨b,off,rfl,hb,hck⟩:=(HS.out.kept HB.out).at1 (vvals_get hlt)
   have hfl:k<(fill D k).length:=by rw [fill_length (by omega)];exact hkD
   have HFS:=hidden (fill_set hkD)
   have HTS:=hidden (there_take_succ hlt)
   have HVF:=hidden (valC_form l[k])
   have HVN:=hidden (valC_null l[k])
   have ho5:=HO.out
   have hck5:=(ho5.cellAt k (by omega)).trans (vals_get hfl)
   have hfr5:=ho5.frozenAt k
   have hST:=ho5.stored k (.int .u64 (D[k]:Int))
   rw [vals_set,HFS.out] at hST
   have HST:=hidden hST
   have hgz:=(ho5.lt w.heap.size rfl).2
   clear hST ho5
   generalize l[k]=c at *
   generalize (fill D k)[k]=y at *
   generalize D[k]=z at *
   by_cases h0:c.1=0
   ·rw [HVN.out h0] at hck
    rw [if_pos h0] at hval HTS
    subst hval
    have HFl:Hid (decide (0∈there (l.take (k+1)))=true):=hidden (decide_eq_true (by rw [HTS.out];simp))
    clear HVF HVN h0
    have HBT:=hidden (cbit_any false)
    generalize decide (0∈there (l.take k))=fl at *
    cases fl
    ·go_wp2_with fail
     refine (HBT.out _).mono ?_
     rintro e w5 ⟨rfl,rfl⟩
     go_wp2_with fail
     go_roundw
     case rel=>exact ⟨k+1,by rw [HFl.out],by go_num,by omega,HST.out.1,below_set HB.out (Nat.le_refl _) _⟩
     case measure=>simp [intOf];omega
    ·go_wp2_with fail
     refine (HBT.out _).mono ?_
     rintro e w5 ⟨rfl,rfl⟩
     go_wp2_with fail
     go_roundw
     case rel=>exact ⟨k+1,by rw [HFl.out],by go_num,by omega,HST.out.1,below_set HB.out (Nat.le_refl _) _⟩
     case measure=>simp [intOf];omega
   ·obtain ⟨tt,uu,hvv⟩:=HVF.out h0
    rw [hvv] at hck
    rw [if_neg h0] at hval HTS
    subst hval
    have HFl:Hid (decide (0∈there (l.take (k+1)))=decide (0∈there (l.take k))):=hidden (by rw [HTS.out];simp)
    clear HVF HVN h0 hvv
    have HBT:=hidden (cbit_any true)
    generalize decide (0∈there (l.take k))=fl at *
    cases fl
    ·go_wp2_with fail
     refine (HBT.out _).mono ?_
     rintro e w5 ⟨rfl,rfl⟩
     go_wp2_with fail
     go_roundw
     case rel=>exact ⟨k+1,by rw [HFl.out],by go_num,by omega,HST.out.1,below_set HB.out (Nat.le_refl _) _⟩
     case measure=>simp [intOf];omega
    ·go_wp2_with fail
     refine (HBT.out _).mono ?_
     rintro e w5 ⟨rfl,rfl⟩
     go_wp2_with fail
     go_roundw
     case rel=>exact ⟨k+1,by rw [HFl.out],by go_num,by omega,HST.out.1,below_set HB.out (Nat.le_refl _) _⟩
     case measure=>simp [intOf];omega
  ·obtain rfl:k=l.length:=by omega
   have e:fill D l.length=D:=by
    have:=fill_all D
    rwa [HDL.out] at this
   rw [e] at HO
   rw [List.take_length,HD.out]
   have HGr:=hidden (HG.out.kept HB.out)
   clear e
   by_cases h0:0∈D
   ·rw [decide_eq_true h0]
    have HHB:=hidden (HY.out h0)
    have HP1:=hidden (cput_any (HGr.out.kept (below_one wr (.cells #[.int .u8 1] 5))) (lit_own wr 1).sv (by simp;omega))
    have hz1:(wr.alloc (.cells #[.int .u8 1] 5)).heap.size=wr.heap.size+1:=World.size_alloc _ _
    clear HN HY h0
    go_wp2_with fail
    refine HP1.out.mono ?_
    rintro e w6 ⟨rfl,⟨v6,hg6⟩,hb6,hk6⟩
    have hgz:=(HO.out.lt w.heap.size rfl).2
    have ho6:OwnU w6 w.heap.size (.slice (some ⟨w.heap.size,0,none⟩) l.length l.length) D:=by
     unfold OwnU
     rw [HDL.out]
     refine own_block (own_kept HO.out (below_one wr (.cells #[.int .u8 1] 5))) (hk6 w.heap.size (by omega) (by omega) (fun e=>?_))
     have:=(HG.out.2.lt w.heap.size e).2
     omega
    have hz6:=hb6.size
    have HG6:=hidden hg6
    have HB6:=hidden ((HB.out.mono (Nat.le_of_lt hglt)).trans (((below_one wr (.cells #[.int .u8 1] 5)).mono (by omega)).trans hb6))
    have HP6:=hidden (cpack_any ho6.sv H2.out)
    clear hg6 hb6 hk6 ho6
    go_wp2_with fail
    refine HP6.out.mono ?_
    rintro e w7 ⟨⟨v7,rfl,ho7⟩,hb7⟩
    have HP7:=hidden (cput_any (HG6.out.kept hb7) ho7.sv (by have:=HSH.out;simp;omega))
    have HB7:=hidden (HB6.out.trans (hb7.mono (by omega)))
    clear ho7 hb7
    go_wp2_with fail
    refine HP7.out.mono ?_
    rintro e w8 ⟨rfl,⟨v8,hg8⟩,hb8,_⟩
    rw [List.append_assoc] at hg8
    have HG8:=hidden hg8
    have HB8:=hidden (HB7.out.trans hb8)
    clear hg8 hb8
    go_wp2_with fail
    go_end0
    rw [HHB.out]
    exact ⟨rfl,⟨_,HG8.out⟩,HB8.out⟩
   ·rw [decide_eq_false h0]
    have HHB:=hidden (HN.out h0)
    have HP1:=hidden (cput_any (HGr.out.kept (below_one wr (.cells #[.int .u8 0] 5))) (lit_own wr 0).sv (by simp;omega))
    have hz1:(wr.alloc (.cells #[.int .u8 0] 5)).heap.size=wr.heap.size+1:=World.size_alloc _ _
    clear HN HY h0
    go_wp2_with fail
    refine HP1.out.mono ?_
    rintro e w6 ⟨rfl,⟨v6,hg6⟩,hb6,hk6⟩
    have HG6:=hidden hg6
    have HB6:=hidden ((HB.out.mono (Nat.le_of_lt hglt)).trans (((below_one wr (.cells #[.int .u8 0] 5)).mono (by omega)).trans hb6))
    clear hg6 hb6 hk6
    go_wp2_with fail
    go_end0
    rw [HHB.out]
    exact ⟨rfl,⟨_,HG6.out⟩,HB6.out⟩
end Go.Proofs.YtpljdjmpamjkhaaGreatDoor
set_option linter.unusedVariables false
set_option linter.unusedSimpArgs false
set_option maxRecDepth 100000
namespace Go.Proofs.YtpljdjmpamjkhaaGreatDoor
open Go.RowKit Go.Lib
def fillV (z:Value) (l:List Value) (i:Nat):List Value:=l.take i++List.replicate (l.length-i) z
theorem fillV_zero (z:Value) (l:List Value):fillV z l 0=List.replicate l.length z:=by simp [fillV]
theorem fillV_all (z:Value) (l:List Value):fillV z l l.length=l:=by simp [fillV]
theorem fillV_length {z:Value} {l:List Value} {i:Nat} (h:i<=l.length):(fillV z l i).length=l.length:=by simp [fillV];omega
theorem fillV_set {z:Value} {l:List Value} {i:Nat} (h:i<l.length):(fillV z l i).set i l[i]=fillV z l (i+1):=by
 unfold fillV
 rw [List.set_append_right _ _ (by simp;omega),List.length_take,Nat.min_eq_left (by omega),Nat.sub_self,show l.length-i=(l.length-(i+1))+1 by omega,
  List.replicate_succ,List.set_cons_zero,List.take_succ_eq_append_getElem h,List.append_assoc]
 rfl
theorem Sv.keptB {W W':World} {B:Nat} {v:Value} {xs:List Value} (h:Sv W v xs) (hv:∀ k,v.ownBlock=some k->k<B) (hb:Below B W W'):Sv W' v xs:=by
 obtain ⟨a,cap,rfl,h1,h2,h3,h4⟩:=h
 refine ⟨a,cap,rfl,h1,h2,h3,fun h0=>?_⟩
 obtain ⟨b,off,rfl,h5,h6⟩:=h4 h0
 have hb':b<B:=hv b rfl
 exact ⟨b,off,rfl,Nat.lt_of_lt_of_le h5 hb.size,fun j x hj=>(hb.cell (p:=⟨b,off+j,none⟩) hb').trans (h6 j x hj)⟩
theorem below_drew_alloc (W:World) (o:Obj):Below W.heap.size W (W.drew.alloc o):=by
 have h1:Below W.heap.size W W.drew:=⟨rfl,rfl,rfl,Nat.le_refl _,fun _ _=>rfl⟩
 exact h1.alloc (Nat.le_refl _) _
theorem conv_bytes {s:List Nat} (hb:Bs s) (hl:s.length<=140737488355328) (W:World):∃ g cap W',(convert 9 30 (.string (bytesT s))).run Tryz.prog W=.ok (.slice (some ⟨g,0,none⟩) s.length cap) W'/\Sv W' (.slice (some ⟨g,0,none⟩) s.length cap) (vals .u8 s)/\Below W.heap.size W W'/\W'.heap.size=W.heap.size+1:=by
 have hr:=run_bytes_of_string (P:=Tryz.prog) W 9 30 5 (bytesT s) Tryz.underlying9 Tryz.underlying30 Tryz.underlying5
 rw [bytesT_size] at hr
 refine ⟨_,_,_,hr,?_,below_drew_alloc _ _,?_⟩
 ·have hge:=grownCap_ge W s.length 0 5
  have hle:=grownCap_le_maxLen W s.length 0 5 (by unfold maxLen;omega)
  refine ⟨_,_,by rw [vals_length],by rw [vals_length];exact hge,hle,fun e=>by (cases e),fun h0=>⟨_,_,rfl,by rw [World.size_alloc];show W.heap.size<W.heap.size+1;omega,fun j x hj=>?_⟩⟩
  have hj':j<s.length:=by
   have:=(List.getElem?_eq_some_iff.1 hj).1
   rwa [vals_length] at this
  rw [vals_get hj'] at hj
  have hh:(W.drew.alloc (.cells (bytesRow (bytesT s) (grownCap W s.length 0 5)) 5 ((bytesRow (bytesT s) (grownCap W s.length 0 5)).size,(bytesRow (bytesT s) (grownCap W s.length 0 5)).size+1))).heap[W.heap.size]?=some (.cells (bytesRow (bytesT s) (grownCap W s.length 0 5)) 5 ((bytesRow (bytesT s) (grownCap W s.length 0 5)).size,(bytesRow (bytesT s) (grownCap W s.length 0 5)).size+1)):=heap_alloc_new W.drew _
  rw [Nat.zero_add,cell_block hh,← hj]
  unfold bytesRow bytesT
  have hx:s[j]<256:=hb _ (List.getElem_mem hj')
  rw [Array.getElem?_append_left (by simpa using hj')]
  simp [hj',Nat.mod_eq_of_lt hx]
 ·rw [World.size_alloc]
  rfl
theorem bstC_len {l:List Int} (hi:Is l) (hl:l.length<=256):(bstC l).length<=5131:=(bstC_size hi hl).1
theorem counted_any {w:World} {v:Value} {l:List Int} (hs:Sv w v (ivals l)) (hl:l.length<=256) (hi:Is l):Calls Tryz.prog 231 #[v] w (Told w (cnt l)):=by
 have HB:=hidden (cbest_any hs hl hi)
 have hlen:=bstC_len hi hl
 have HCN:Hid (cnt l=uv (bstC l).length++bstC l):=rfl
 clear hs hi
 generalize cnt l=cn at *
 generalize bstC l=bs at *
 have h10:=uv_ten (n:=bs.length) (by omega)
 have HP:=hidden (vput_told bs.length (by omega))
 go_enter Tryz.func231,Tryz.ntmps231
 go_wp2_with fail
 refine HB.out.mono ?_
 rintro e w1 ⟨⟨v1,rfl,ho1⟩,hb1⟩
 have HO1:=hidden ho1
 have HB1:=hidden hb1
 have hz1:=hb1.size
 obtain ⟨a1,c1,rfl⟩:=ho1.len
 clear ho1 hb1
 go_wp2_with fail
 refine (HP.out _).mono ?_
 rintro e w2 ⟨⟨v2,rfl,ho2⟩,hb2⟩
 have HO2:=hidden (ho2.low hz1)
 have HB2:=hidden hb2
 have hz2:=hb2.size
 clear ho2 hb2
 go_wp2_with (first | (at_builtin;refine wpList_append_sv rfl _ _ rfl w.heap.size _ _ (uv bs.length) bs rfl HO2.out rfl (HO1.out.kept HB2.out).sv ?c1 ?c2 ?_))
 case c1=>omega
 case c2=>omega
 intro v4 w4 o4 b4
 have HO4:=hidden o4
 have HB4:=hidden ((HB1.out.trans (HB2.out.mono hz1)).trans b4)
 clear o4 b4
 go_wp2_with fail
 go_ret
 rw [HCN.out]
 exact ⟨⟨_,rfl,HO4.out⟩,HB4.out⟩
end Go.Proofs.YtpljdjmpamjkhaaGreatDoor
set_option linter.unusedVariables false
set_option linter.unusedSimpArgs false
set_option maxRecDepth 100000
set_option maxHeartbeats 4000000
namespace Go.Proofs.YtpljdjmpamjkhaaGreatDoor
open Go.RowKit Go.Lib
theorem flatten_take_succ {l:List (List Nat)} {k:Nat} (h:k<l.length):(l.take (k+1)).flatten=(l.take k).flatten++l[k]:=by
 rw [List.take_succ_eq_append_getElem h,List.flatten_append]
 simp
theorem flatten_take_len {l:List (List Nat)} (ht:Ts l) (hl:l.length<=256) (k:Nat):(l.take k).flatten.length<=16384:=by
 have h:=(sum_sizes (l:=l.take k) fun s hs=>ht s (List.mem_of_mem_take hs)).1
 rw [List.length_take] at h
 omega
theorem putLens_any {w:World} {g:Nat} {v vl:Value} {bs:List Nat} {l:List (List Nat)} (hg:Gs w g v bs) (hbs:bs.length<=100000) (hs:Sv w vl (svalsC l)) (hlow:∀ k,vl.ownBlock=some k->k<g) (hl:l.length<=256) (ht:Ts l) :
  Calls Tryz.prog 206 #[.func (.func 168) #[] #[.pointer (some ⟨g,0,none⟩)],vl] w (PutsPost w g (bs++txts l)):=by
 obtain ⟨i0,hi,hz0,hz1',hz2⟩:=info_parts info2
 have HG:=hidden hg
 have hglt:=hg.lt
 have HS:=hidden hs
 have HT:=hidden ht
 have HLOW:=hidden hlow
 obtain ⟨a,cap,rfl,hcap,hcm⟩:=hs.form1
 rw [svals_lengthC] at *
 have hcm':cap<=9223372036854775807:=by unfold maxLen at hcm;omega
 have HTX:Hid (txts l=cnt (sizes l)++l.flatten):=rfl
 have HFL:=hidden (fun k=>flatten_take_len ht hl k)
 obtain ⟨D,hD⟩:∃ D,sizes l=D:=⟨_,rfl⟩
 have hDl:D.length=l.length:=by rw [← hD,sizes_length]
 have HDI:Hid (Is D):=hidden (hD ▸ sizes_i64 ht)
 have HDG:Hid (∀ k (h:k<l.length),(ivals D)[k]?=some (.int .i64 ((bytesT l[k]).size:Int))):=hidden (fun k h=>by rw [← hD];simp [sizes,ivals,h,bytesT_size])
 rw [hD] at HTX
 have HDL:=hidden hDl
 have hcl:(cnt D).length<=5141:=by
  have h1:=bstC_len HDI.out (by omega)
  have h2:=uv_ten (n:=(bstC D).length) (by omega)
  unfold cnt
  rw [List.length_append]
  omega
 clear hs hcm hD hDl hg ht hlow
 go_enter Tryz.func206,Tryz.ntmps206
 go_wp2_with (first | (refine wpList_make_full _ rfl _ _ 143 rfl w.heap.size 2 i0 (.int .i64 0) 1 Tryz.underlying143 hi hz0 hz1' .i64 .i64 _ _ l.length rfl rfl ?m1 ?m2 ?m3 ?m4 ?m5 ?_))
 case m1=>rfl
 case m2=>rfl
 case m3=>rw [hz2];omega
 case m4=>unfold maxLen;omega
 case m5=>omega
 intro w4 ho4 hg4
 have hb4:Below w.heap.size w w4:=(Below.refl _ _).grown hg4 (Nat.le_refl _) (fun k hk=>by cases hk)
 have ho4':w4.ownsRow w.heap.size 2 1 (.slice (some ⟨w.heap.size,0,none⟩) l.length l.length) l.length (fillV (.int .i64 0) (ivals D) 0):=by
  rw [fillV_zero,ivals_length,HDL.out,← toList_madeCells_one]
  simpa using ho4
 have HO4:=hidden ho4'
 have HB4:=hidden hb4
 clear ho4 hg4 hb4 ho4'
 go_wp2_with fail
 go_loopw [14] (fun i wr=>∃ k:Nat,i=.int .i64 (k:Int)/\k<=l.length/\wr.ownsRow w.heap.size 2 1 (.slice (some ⟨w.heap.size,0,none⟩) l.length l.length) l.length (fillV (.int .i64 0) (ivals D) k)/\Below w.heap.size w wr) (fun i _=>l.length-(intOf i).toNat)
 case atStart=>exact ⟨0,rfl,by omega,HO4.out,HB4.out⟩
 case round =>
  obtain ⟨k,rfl,hk,how,hbel⟩:=hrel
  have HB:=hidden hbel
  have HO:=hidden how
  have hzr:=hbel.size
  clear hbel how
  by_cases hlt:k<l.length
  ·have hkD:k<(ivals D).length:=by rw [ivals_length,HDL.out];exact hlt
   have hval:(ivals D)[k]=.int .i64 ((bytesT l[k]).size:Int):=by
    have:=HDG.out k hlt
    rw [List.getElem?_eq_getElem hkD] at this
    exact Option.some.inj this
   obtain ⟨b,off,rfl,hb,hck⟩:=(HS.out.kept HB.out).at1 (svals_getC hlt)
   have hfl:k<(fillV (.int .i64 0) (ivals D) k).length:=by rw [fillV_length (by omega)];exact hkD
   have HFS:=hidden (fillV_set (z:=.int .i64 0) hkD)
   have ho5:=HO.out
   have hck5:=(ho5.cellAt k (by omega)).trans (List.getElem?_eq_getElem hfl)
   have hfr5:=ho5.frozenAt k
   have hST:=ho5.stored k (.int .i64 ((bytesT l[k]).size:Int))
   rw [← hval,HFS.out] at hST
   rw [hval] at hST
   have HST:=hidden hST
   have hgz:=(ho5.lt w.heap.size rfl).2
   have hsz:(bytesT l[k]).size<=64:=by rw [bytesT_size];exact (HT.out _ (List.getElem_mem hlt)).1
   rw [txt_eq] at hck
   clear hST ho5 hval
   generalize (fillV (.int .i64 0) (ivals D) k)[k]=y at *
   generalize bytesT l[k]=S at *
   go_wp2_with fail
   go_roundw
   case rel=>exact ⟨k+1,by go_num,by omega,HST.out.1,below_set HB.out (Nat.le_refl _) _⟩
   case measure=>simp [intOf];omega
  ·obtain rfl:k=l.length:=by omega
   have e:fillV (.int .i64 0) (ivals D) l.length=ivals D:=by
    have:=fillV_all (.int .i64 0) (ivals D)
    rwa [ivals_length,HDL.out] at this
   rw [e] at HO
   have ho':OwnI wr w.heap.size (.slice (some ⟨w.heap.size,0,none⟩) l.length l.length) D:=by
    unfold OwnI
    rw [HDL.out]
    exact HO.out
   have HCT:=hidden (counted_any ho'.sv (by rw [HDL.out];exact hl) HDI.out)
   have HGr:=hidden (HG.out.kept HB.out)
   clear e ho' HO
   go_wp2_with fail
   refine HCT.out.mono ?_
   rintro e w6 ⟨⟨v6,rfl,ho6⟩,hb6⟩
   have HP6:=hidden (cput_any (HGr.out.kept hb6) ho6.sv (by omega))
   have HB6:=hidden (HB.out.trans (hb6.mono hzr))
   have hz6:=hb6.size
   clear ho6 hb6
   go_wp2_with fail
   refine HP6.out.mono ?_
   rintro e w7 ⟨rfl,⟨v7,hg7⟩,hb7,_⟩
   have HG7:=hidden hg7
   have HB7:=hidden ((HB6.out.mono (Nat.le_of_lt hglt)).trans hb7)
   clear hg7 hb7
   go_wp2_with fail
   go_loopw [31] (fun i wr=>∃ k:Nat,i=.int .i64 (k:Int)/\k<=l.length/\(∃ v',Gs wr g v' (bs++cnt D++(l.take k).flatten))/\Below g w wr) (fun i _=>l.length-(intOf i).toNat)
   case atStart=>exact ⟨0,rfl,by omega,⟨v7,by simpa using HG7.out⟩,HB7.out⟩
   case round =>
    obtain ⟨k,rfl,hk,⟨vq,hgq⟩,hbq⟩:=hrel
    have HGQ:=hidden hgq
    have HBQ:=hidden hbq
    have hzq:=hbq.size
    clear hgq hbq
    by_cases hlt:k<l.length
    ·obtain ⟨b,off,rfl,hb,hck⟩:=(HS.out.keptB HLOW.out HBQ.out).at1 (svals_getC hlt)
     obtain ⟨hts,htb⟩:=HT.out _ (List.getElem_mem hlt)
     obtain ⟨gc,cc,wc,hcv,hsc,hbc,hzc⟩:=conv_bytes htb (by omega) wr
     rw [txt_eq] at hck
     have HFT:=hidden (flatten_take_succ hlt)
     have hfl:=HFL.out k
     have HPQ:=hidden (cput_any (HGQ.out.kept hbc) hsc (by simp only [List.length_append];omega))
     have HBC:=hidden (HBQ.out.trans (hbc.mono (Nat.le_trans (Nat.le_of_lt HGQ.out.lt) (Nat.le_refl _))))
     have hbl:g<wr.heap.size:=HGQ.out.lt
     clear hsc hbc htb hts
     generalize bytesT l[k]=S at *
     generalize l[k]=x at *
     go_wp2_with fail
     refine HPQ.out.mono ?_
     rintro e w8 ⟨rfl,⟨v8,hg8⟩,hb8,_⟩
     rw [List.append_assoc,← HFT.out] at hg8
     have HG8:=hidden hg8
     have HB8:=hidden (HBC.out.trans hb8)
     clear hg8 hb8
     go_wp2_with fail
     go_roundw
     case rel=>exact ⟨k+1,by go_num,by omega,⟨_,HG8.out⟩,HB8.out⟩
     case measure=>simp [intOf];omega
    ·obtain rfl:k=l.length:=by omega
     rw [List.take_length,List.append_assoc,← HTX.out] at HGQ
     go_wp2_with fail
     go_end0
     exact ⟨rfl,⟨_,HGQ.out⟩,HBQ.out⟩
end Go.Proofs.YtpljdjmpamjkhaaGreatDoor
