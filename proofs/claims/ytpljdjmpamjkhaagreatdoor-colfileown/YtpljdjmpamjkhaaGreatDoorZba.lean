/- Contracts of layer column: Write. The reader of layer column: its state; refuse, end, take, number, choice. The reader of layer column: number, choice, packed, lastNumbers, countedNumbers. -/
import Derived.Test.YtpljdjmpamjkhaaGreatDoorZaz
import Derived.Test.YtpljdjmpamjkhaaGreatDoorZax
set_option linter.unusedVariables false
set_option linter.unusedSimpArgs false
set_option maxRecDepth 100000
set_option maxHeartbeats 4000000
namespace Go.Proofs.YtpljdjmpamjkhaaGreatDoor
open Go.RowKit Go.Lib
theorem own_low_block {w:World} {B e n:Nat} {v:Value} {xs:List Value} (h:w.ownsRow B e 1 v n xs):∀ k,v.ownBlock=some k->k<w.heap.size:=fun k hk=>(h.lt k hk).2
theorem write1_any {w:World} {g p q k:Nat} {v vl:Value} {l:List (Nat×Int×List Nat)} (hg:Gs w g v []) (hp:p<g) (hq:q<g) (hcl:w.cell? ⟨p,0,none⟩=some vl) (hck:w.cell? ⟨q,0,none⟩=some (.int .u8 (k:Int)))
  (hs:Sv w vl (vvals l)) (hlow:∀ k,vl.ownBlock=some k->k<g) (hc:Col k l) :
  Calls Tryz.prog 124 #[.func (.func 168) #[] #[.pointer (some ⟨g,0,none⟩)],.pointer (some ⟨p,0,none⟩),.pointer (some ⟨q,0,none⟩)] w (PutsPost w g (colM k l)):=by
 have hglt:=hg.lt
 have HCL:=hidden hcl
 have HCK:=hidden hck
 have HS:=hidden hs
 have HLOW:=hidden hlow
 obtain ⟨hk,hl,hcells⟩:=hc
 have HC:=hidden hcells
 have hhd:=(head_size (l:=l) hl).1
 have HCM:Hid (colM k l=headB l++tailB k l):=rfl
 have HP1:=hidden (putNulls_any hg (by simp) hs hl)
 have hol:=ownC_length l
 obtain ⟨a,cap,rfl,_,_⟩:=hs.form1
 rw [vvals_length] at *
 clear hg hs hlow hcells hck
 obtain rfl | rfl | rfl:k=1∨k=2∨k=3:=by omega
 ·have hin:=ownC_ints HC.out
  have hbl:=bstC_len hin.1 (by rw [List.length_map];omega)
  have HI:=hidden hin.1
  have HTL:=hidden (tail_1 l)
  clear hin
  go_enter Tryz.func124,Tryz.ntmps124
  go_wp2_with fail
  refine HP1.out.mono ?_
  rintro e w1 ⟨rfl,⟨v1,hg1⟩,hb1⟩
  have HG1:=hidden hg1
  have HB1:=hidden hb1
  have hcl1:=kept_cell HCL.out hb1 hp
  have hck1:=kept_cell HCK.out hb1 hq
  have HW1:=hidden (wholes_any (HS.out.keptB HLOW.out hb1) hl HC.out)
  clear hg1 hb1 hcl
  go_wp2_with fail
  refine HW1.out.mono ?_
  rintro e w2 ⟨⟨v2,rfl,ho2⟩,hb2⟩
  have HG2:=hidden (HG1.out.kept hb2)
  have HB2:=hidden (HB1.out.trans (hb2.mono (Nat.le_of_lt HG1.out.lt)))
  have HW2:=hidden (cbest_any ho2.sv (by rw [List.length_map];omega) HI.out)
  clear ho2 hb2 hcl1 hck1
  go_wp2_with fail
  refine HW2.out.mono ?_
  rintro e w3 ⟨⟨v3,rfl,ho3⟩,hb3⟩
  have HB3:=hidden (HB2.out.trans (hb3.mono (Nat.le_of_lt HG2.out.lt)))
  have HP3:=hidden (cput_any (HG2.out.kept hb3) ho3.sv (by simp only [List.nil_append];omega))
  clear ho3 hb3
  go_wp2_with fail
  refine HP3.out.mono ?_
  rintro e w4 ⟨rfl,⟨v4,hg4⟩,hb4,_⟩
  rw [List.nil_append,← HTL.out,← HCM.out] at hg4
  have HG4:=hidden hg4
  have HB4:=hidden (HB3.out.trans hb4)
  clear hg4 hb4
  go_wp2_with fail
  go_end0
  exact ⟨rfl,⟨_,HG4.out⟩,HB4.out⟩
 ·have hin:=ownC_truths HC.out
  have hbl:=packR_short hin.1 (by rw [List.length_map];omega)
  have HI:=hidden hin.1
  have HTL:=hidden (tail_2 l)
  clear hin
  go_enter Tryz.func124,Tryz.ntmps124
  go_wp2_with fail
  refine HP1.out.mono ?_
  rintro e w1 ⟨rfl,⟨v1,hg1⟩,hb1⟩
  have HG1:=hidden hg1
  have HB1:=hidden hb1
  have hcl1:=kept_cell HCL.out hb1 hp
  have hck1:=kept_cell HCK.out hb1 hq
  have HW1:=hidden (truths_any (HS.out.keptB HLOW.out hb1) hl HC.out)
  clear hg1 hb1 hcl
  go_wp2_with fail
  refine HW1.out.mono ?_
  rintro e w2 ⟨⟨v2,rfl,ho2⟩,hb2⟩
  have HG2:=hidden (HG1.out.kept hb2)
  have HB2:=hidden (HB1.out.trans (hb2.mono (Nat.le_of_lt HG1.out.lt)))
  have HW2:=hidden (cpack_any ho2.sv HI.out)
  clear ho2 hb2 hcl1 hck1
  go_wp2_with fail
  refine HW2.out.mono ?_
  rintro e w3 ⟨⟨v3,rfl,ho3⟩,hb3⟩
  have HB3:=hidden (HB2.out.trans (hb3.mono (Nat.le_of_lt HG2.out.lt)))
  have HP3:=hidden (cput_any (HG2.out.kept hb3) ho3.sv (by simp only [List.nil_append];omega))
  clear ho3 hb3
  go_wp2_with fail
  refine HP3.out.mono ?_
  rintro e w4 ⟨rfl,⟨v4,hg4⟩,hb4,_⟩
  rw [List.nil_append,← HTL.out,← HCM.out] at hg4
  have HG4:=hidden hg4
  have HB4:=hidden (HB3.out.trans hb4)
  clear hg4 hb4
  go_wp2_with fail
  go_end0
  exact ⟨rfl,⟨_,HG4.out⟩,HB4.out⟩
 ·have hin:=ownC_words HC.out
  have hbl:=(words_size hin.1 (by rw [List.length_map];omega)).1
  have HI:=hidden hin.1
  have HTL:=hidden (tail_3 l)
  clear hin
  go_enter Tryz.func124,Tryz.ntmps124
  go_wp2_with fail
  refine HP1.out.mono ?_
  rintro e w1 ⟨rfl,⟨v1,hg1⟩,hb1⟩
  have HG1:=hidden hg1
  have HB1:=hidden hb1
  have hcl1:=kept_cell HCL.out hb1 hp
  have hck1:=kept_cell HCK.out hb1 hq
  have HW1:=hidden (ctexts_any (HS.out.keptB HLOW.out hb1) hl HC.out)
  clear hg1 hb1 hcl
  go_wp2_with fail
  refine HW1.out.mono ?_
  rintro e w2 ⟨⟨v2,rfl,ho2⟩,hb2⟩
  have HG2:=hidden (HG1.out.kept hb2)
  have HB2:=hidden (HB1.out.trans (hb2.mono (Nat.le_of_lt HG1.out.lt)))
  have HW2:=hidden (bestTexts_any ho2.sv (own_low_block ho2) (by rw [List.length_map];omega) HI.out)
  clear ho2 hb2 hcl1 hck1
  go_wp2_with fail
  refine HW2.out.mono ?_
  rintro e w3 ⟨⟨v3,rfl,ho3⟩,hb3⟩
  have HB3:=hidden (HB2.out.trans (hb3.mono (Nat.le_of_lt HG2.out.lt)))
  have HP3:=hidden (cput_any (HG2.out.kept hb3) ho3.sv (by simp only [List.nil_append];omega))
  clear ho3 hb3
  go_wp2_with fail
  refine HP3.out.mono ?_
  rintro e w4 ⟨rfl,⟨v4,hg4⟩,hb4,_⟩
  rw [List.nil_append,← HTL.out,← HCM.out] at hg4
  have HG4:=hidden hg4
  have HB4:=hidden (HB3.out.trans hb4)
  clear hg4 hb4
  go_wp2_with fail
  go_end0
  exact ⟨rfl,⟨_,HG4.out⟩,HB4.out⟩
def WritePost (r:List Nat×Nat) (w:World) (e:Ending) (w':World):Prop:=(∃ v,e=.returned (.tuple #[v,.int .i64 (r.2:Int)])/\OwnB w' w.heap.size v r.1)/\Below w.heap.size w w'
theorem writeC_bad {k:Nat} {l:List (Nat×Int×List Nat)} (h:(writeC k l).2≠0):(writeC k l).1=[]:=by
 unfold writeC at h ⊢
 split
 ·split
  ·next h1 h2 =>
   rw [if_pos h1,if_pos h2] at h
   exact absurd rfl h
  ·rfl
 ·rfl
theorem writeC_good {k:Nat} {l:List (Nat×Int×List Nat)} (hf:∀ c∈l,Fine c) (h:(writeC k l).2=0):Col k l:=by
 unfold writeC at h
 split at h
 ·next h1 =>
  split at h
  ·next h2=>exact ⟨⟨h1.1,h1.2.1⟩,h2.1,fun c hc=>(hf c hc).cellk (h1.2.2 c hc)⟩
  ·simp at h
 ·simp at h
theorem write_any {w:World} {vl:Value} {l:List (Nat×Int×List Nat)} (hs:Sv w vl (vvals l)) (hlow:∀ k,vl.ownBlock=some k->k<w.heap.size) (hf:∀ c∈l,Fine c) (k:Nat) :
  Calls Tryz.prog 83 #[.int .u8 (k:Int),vl] w (WritePost (writeC k l) w):=by
 obtain ⟨a,cap,rfl,_,_⟩:=hs.form1
 have hz1:=World.size_alloc w (.cells #[.int .u8 (k:Int)] 50)
 have hz2:=World.size_alloc (w.alloc (.cells #[.int .u8 (k:Int)] 50)) (.cells #[.slice a (vvals l).length cap] 79)
 have hb1:=below_one w (.cells #[.int .u8 (k:Int)] 50)
 have hb2:=below_one (w.alloc (.cells #[.int .u8 (k:Int)] 50)) (.cells #[.slice a (vvals l).length cap] 79)
 have hbb:=hb1.trans (hb2.mono (by omega))
 have HBB:=hidden hbb
 have HFA:=hidden (cfault_any (hs.kept hbb) hf k)
 have HC1:=hidden (cell_new w (.int .u8 (k:Int)) 50)
 have HC2:=hidden (cell_new (w.alloc (.cells #[.int .u8 (k:Int)] 50)) (.slice a (vvals l).length cap) 79)
 have HC1':Hid (((w.alloc (.cells #[.int .u8 (k:Int)] 50)).alloc (.cells #[.slice a (vvals l).length cap] 79)).cell? ⟨w.heap.size,0,none⟩=some (.int .u8 (k:Int))):=hidden ((hb2.cell (p:=⟨w.heap.size,0,none⟩) (by show w.heap.size<_;omega)).trans HC1.out)
 have HBAD:=hidden (writeC_bad (k:=k) (l:=l))
 have HGOOD:=hidden (fun h=>writeC_good (k:=k) (l:=l) hf h)
 have HWC:=hidden (fun h=>writeC_col (k:=k) (l:=l) h)
 have HGA:=hidden (fun (W1:World) (hw:Below ((w.alloc (.cells #[.int .u8 (k:Int)] 50)).alloc (.cells #[.slice a (vvals l).length cap] 79)).heap.size ((w.alloc (.cells #[.int .u8 (k:Int)] 50)).alloc (.cells #[.slice a (vvals l).length cap] 79)) W1) (hcol:Col k l)=>gather22 (w:=W1) (p:=.pointer (some ⟨w.heap.size+1,0,none⟩)) (q:=.pointer (some ⟨w.heap.size,0,none⟩)) (bs:=colM k l) (fun W hg hb=>by
  have hsz:=hw.size
  have hb3:Below w.heap.size w W:=hbb.trans ((hw.trans (hb.mono hsz)).mono (by omega))
  refine write1_any (vl:=.slice a (vvals l).length cap) hg (by omega) (by omega) ?_ ?_ (hs.kept hb3) (fun k hk=>by have:=hlow k hk;omega) hcol
  ·rw [hb.cell (p:=⟨w.heap.size+1,0,none⟩) (by show w.heap.size+1<_;omega),hw.cell (p:=⟨w.heap.size+1,0,none⟩) (by show w.heap.size+1<_;omega)]
   have:=HC2.out
   rwa [hz1] at this
  ·rw [hb.cell (p:=⟨w.heap.size,0,none⟩) (by show w.heap.size<_;omega),hw.cell (p:=⟨w.heap.size,0,none⟩) (by show w.heap.size<_;omega)]
   exact HC1'.out))
 clear hs hlow hf hb1 hb2 hbb
 generalize writeC k l=wc at *
 obtain ⟨bs,er⟩:=wc
 simp only at *
 generalize (vvals l).length=n at *
 by_cases he:er=0
 ·subst he
  have hcol:=HGOOD.out rfl
  have HBS:Hid (bs=colM k l):=hidden (by have:=HWC.out hcol;simpa using this)
  have HCOL:=hidden hcol
  clear hcol
  go_enter Tryz.func83,Tryz.ntmps83
  go_wp2_with fail
  refine HFA.out.mono ?_
  rintro e w1 ⟨rfl,hb1⟩
  have HGA1:=hidden (HGA.out w1 hb1 HCOL.out)
  have HB1:=hidden (HBB.out.trans (hb1.mono (by omega)))
  have hz3:=hb1.size
  clear hb1
  go_wp2_with fail
  refine HGA1.out.mono ?_
  rintro e w2 ⟨⟨v2,rfl,ho2⟩,hb2⟩
  have HO2:=hidden (ho2.low (B:=w.heap.size) (by omega))
  have HB2:=hidden (HB1.out.trans (hb2.mono (by omega)))
  clear ho2 hb2
  go_wp2_with fail
  go_ret2
  rw [HBS.out]
  exact ⟨⟨_,rfl,HO2.out⟩,HB2.out⟩
 ·have hne:((er:Int) != 0)=true:=by simpa using he
  have HBS:Hid (bs=[]):=hidden (HBAD.out he)
  clear he
  go_enter Tryz.func83,Tryz.ntmps83
  go_wp2_with fail
  refine HFA.out.mono ?_
  rintro e w1 ⟨rfl,hb1⟩
  have HB1:=hidden (HBB.out.trans (hb1.mono (by omega)))
  clear hb1
  go_wp2_with fail
  go_ret2
  rw [HBS.out]
  exact ⟨⟨_,rfl,OwnB.nil _ _⟩,HB1.out⟩
end Go.Proofs.YtpljdjmpamjkhaaGreatDoor
set_option linter.unusedVariables false
set_option linter.unusedSimpArgs false
set_option maxRecDepth 100000
set_option maxHeartbeats 2000000
namespace Go.Proofs.YtpljdjmpamjkhaaGreatDoor
open Go.RowKit Go.Lib
theorem Sv.keptW {W W':World} {B:Nat} {v:Value} {xs:List Value} (h:Sv W v xs) (hv:0<xs.length->∀ k,v.ownBlock=some k->k<B) (hb:Below B W W'):Sv W' v xs:=by
 obtain ⟨a,cap,rfl,h1,h2,h3,h4⟩:=h
 refine ⟨a,cap,rfl,h1,h2,h3,fun h0=>?_⟩
 obtain ⟨b,off,rfl,h5,h6⟩:=h4 h0
 have hb':b<B:=hv h0 b rfl
 exact ⟨b,off,rfl,Nat.lt_of_lt_of_le h5 hb.size,fun j x hj=>(hb.cell (p:=⟨b,off+j,none⟩) hb').trans (h6 j x hj)⟩
def Rs (W:World) (p:Nat) (b:List Nat) (f:Nat):Prop :=
 ∃ a cap,W.heap[p]?=some (.cells #[.slice a b.length cap,.int .i64 (f:Int)] 271 (0,0))/\Sv W (.slice a b.length cap) (vals .u8 b)/\(0<b.length->∀ k,(Value.slice a b.length cap).ownBlock=some k->k<p)/\Bs b
theorem Rs.bs {W:World} {p:Nat} {b:List Nat} {f:Nat} (h:Rs W p b f):Bs b:=by obtain ⟨_,_,_,_,_,h⟩:=h;exact h
theorem Rs.lt {W:World} {p:Nat} {b:List Nat} {f:Nat} (h:Rs W p b f):p<W.heap.size:=by obtain ⟨_,_,h,_⟩:=h;exact (Array.getElem?_eq_some_iff.1 h).1
theorem Rs.kept {W W':World} {p B:Nat} {b:List Nat} {f:Nat} (h:Rs W p b f) (hb:Below B W W') (hp:p<B):Rs W' p b f:=by
 obtain ⟨a,cap,h1,h2,h3,h4⟩:=h
 exact ⟨a,cap,(hb.block p hp).trans h1,h2.keptW (fun h0 k hk=>Nat.lt_trans (h3 (by rwa [vals_length] at h0) k hk) hp) hb,h3,h4⟩
theorem Sv.dropG {W:World} {a:Option Addr} {n cap:Nat} {xs:List Value} (h:Sv W (.slice a n cap) xs) {k:Nat} (hk:k<=xs.length) :
  Sv W (.slice (if cap=k then a else a.map fun x=>x.add k) (xs.length-k) (cap-k)) (xs.drop k):=by
 obtain ⟨a',cap',e,h1,h2,h3,h4⟩:=h
 simp only [Value.slice.injEq] at e
 obtain ⟨rfl,rfl,rfl⟩:=e
 refine ⟨_,cap-k,by rw [List.length_drop],by rw [List.length_drop];omega,by omega,fun e=>?_,fun h0=>?_⟩
 ·by_cases hc:cap=k
  ·omega
  ·rw [if_neg hc] at e
   have ha:a=none:=by cases a with | none=>rfl | some x=>simp at e
   have:=h3 ha
   omega
 ·rw [List.length_drop] at h0
  obtain ⟨b,off,rfl,h5,h6⟩:=h4 (by omega)
  refine ⟨b,off+k,?_,h5,fun j x hj=>?_⟩
  ·rw [if_neg (by omega)]
   simp [addj]
  ·rw [List.getElem?_drop] at hj
   have:=h6 (k+j) x hj
   rwa [← Nat.add_assoc] at this
theorem dropG_block {a:Option Addr} {n cap m k c:Nat} {p:Nat} (h:∀ i,(Value.slice a n cap).ownBlock=some i->i<p):∀ i,(Value.slice (if c=k then a else a.map fun x=>x.add k) m (cap-k)).ownBlock=some i->i<p:=by
 intro i hi
 cases a with
 | none =>
  split at hi<;>cases hi
 | some x =>
  refine h i ?_
  split at hi
  ·exact hi
  ·simp only [Option.map_some,Value.ownBlock] at hi ⊢
   unfold Addr.add at hi
   split at hi<;>exact hi
theorem Rs.cells {W:World} {p:Nat} {b:List Nat} {f:Nat} (h:Rs W p b f) :
  ∃ a cap,W.cell? ⟨p,0,none⟩=some (.slice a b.length cap)/\W.cell? ⟨p,1,none⟩=some (.int .i64 (f:Int))/\W.frozen? ⟨p,0,none⟩=false/\W.frozen? ⟨p,1,none⟩=false /\
   b.length<=cap/\cap<=9223372036854775807/\Sv W (.slice a b.length cap) (vals .u8 b)/\(0<b.length->∀ k,(Value.slice a b.length cap).ownBlock=some k->k<p) /\
   (∀ f':Nat,Rs (W.setCell ⟨p,1,none⟩ (.int .i64 (f':Int))) p b f') /\
   (∀ k,k<=b.length->∃ A,(if cap=k then a else a.map fun x=>x.add k)=A/\Rs (W.setCell ⟨p,0,none⟩ (.slice A (b.length-k) (cap-k))) p (b.drop k) f) /\
   Rs (W.setCell ⟨p,0,none⟩ (.slice none 0 0)) p [] f:=by
 have hlt:=h.lt
 obtain ⟨a,cap,h1,h2,h3,h4⟩:=h
 have hfr:∀ i (x:Value),Below p W (W.setCell ⟨p,i,none⟩ x):=fun i x=>(Below.refl p W).setCell (Nat.le_refl _) x
 have hcm:=h2.form1
 obtain ⟨a',cap',e,hc1,hc2⟩:=hcm
 rw [vals_length] at e hc1
 simp only [Value.slice.injEq] at e
 obtain ⟨rfl,_,rfl⟩:=e
 refine ⟨a,cap,by rw [cell_block h1];rfl,by rw [cell_block h1];rfl,by simp [World.frozen?,h1],by simp [World.frozen?,h1],hc1,by unfold maxLen at hc2;omega,h2,h3,fun f'=>?_,fun k hk=>?_,?_⟩
 ·exact ⟨a,cap,by rw [heap_setC h1];rfl,h2.keptW (fun h0=>h3 (by rwa [vals_length] at h0)) (hfr 1 _),h3,h4⟩
 ·refine ⟨_,rfl,?_⟩
  have hd:=h2.dropG (k:=k) (by rw [vals_length];exact hk)
  rw [vals_length] at hd
  have hv:(vals .u8 b).drop k=vals .u8 (b.drop k):=by simp [vals,List.map_drop]
  rw [hv] at hd
  have hbl:0<b.length->∀ i,(Value.slice (if cap=k then a else a.map fun x=>x.add k) (b.length-k) (cap-k)).ownBlock=some i->i<p:=fun h0=>dropG_block (m:=b.length-k) (k:=k) (c:=cap) (h3 h0)
  refine ⟨_,cap-k,by rw [heap_setC h1,List.length_drop];rfl,?_,?_,h4.drop k⟩
  ·rw [List.length_drop]
   exact hd.keptW (fun h0=>hbl (by rw [vals_length,List.length_drop] at h0;omega)) (hfr 0 _)
  ·rw [List.length_drop]
   exact fun h0=>hbl (by omega)
 ·refine ⟨none,0,by rw [heap_setC h1];rfl,Sv.nil _,fun h0=>by simp at h0,fun x hx=>by simp at hx⟩
theorem crefuse_any {w:World} {p f:Nat} {b:List Nat} (h:Rs w p b f) (e:Nat) :
  Calls Tryz.prog 237 #[.pointer (some ⟨p,0,none⟩),.int .i64 (e:Int)] w fun r w'=>r=.returned (.tuple #[])/\Rs w' p b (orf f e)/\Fr p w.heap.size w w':=by
 have HS:=hidden h
 obtain ⟨a,cap,h0,h1,h2,h3,h4,h5,h6,h7,h8,h9,h10⟩:=h.cells
 have H8:=hidden (h8 e)
 have HF:=hidden ((Fr.refl p w.heap.size w).set 1 (.int .i64 (e:Int)))
 clear h h6 h7 h8 h9 h10
 by_cases hf:((f:Int)==0)=true
 ·have hf':f=0:=by simpa using hf
  have HO:Hid (orf f e=e):=by show _=_;unfold orf;rw [if_pos hf']
  clear hf'
  go_enter Tryz.func237,Tryz.ntmps237
  go_wp2_with fail
  go_end0
  rw [HO.out]
  exact ⟨rfl,H8.out,HF.out⟩
 ·have hff:((f:Int)==0)=false:=by simpa using hf
  have HO:Hid (orf f e=f):=by show _=_;unfold orf;rw [if_neg (fun e=>hf (by simp [e]))]
  clear hf
  go_enter Tryz.func237,Tryz.ntmps237
  go_wp2_with fail
  go_end0
  rw [HO.out]
  exact ⟨rfl,HS.out,Fr.refl _ _ _⟩
theorem cend_any {w:World} {p f:Nat} {b:List Nat} (h:Rs w p b f) :
  Calls Tryz.prog 280 #[.pointer (some ⟨p,0,none⟩)] w fun r w'=>r=.returned (.tuple #[])/\Rs w' p b (orf f (if b.length=0 then 0 else 32))/\Fr p w.heap.size w w':=by
 have HS:=hidden h
 obtain ⟨a,cap,h0,h1,h2,h3,h4,h5,h6,h7,h8,h9,h10⟩:=h.cells
 have HR:=hidden (crefuse_any h 32)
 clear h h6 h7 h8 h9 h10
 by_cases hp:(b.length:Int) > 0
 ·rw [if_neg (by omega)]
  go_enter Tryz.func280,Tryz.ntmps280
  go_wp2_with fail
  refine HR.out.mono ?_
  rintro e w1 ⟨rfl,hs1,hf1⟩
  have HS1:=hidden hs1
  clear hs1
  go_wp2_with fail
  go_end0
  exact ⟨rfl,HS1.out,hf1⟩
 ·have hb0:b.length=0:=by omega
  rw [if_pos hb0]
  have HO:Hid (orf f 0=f):=by show _=_;unfold orf;split<;>simp_all
  clear hb0
  go_enter Tryz.func280,Tryz.ntmps280
  go_wp2_with fail
  go_end0
  rw [HO.out]
  exact ⟨rfl,HS.out,Fr.refl _ _ _⟩
def tkB (c:Nat) (b:List Nat):List Nat:=if b.length<c then [] else b.take c
def tkR (c:Nat) (b:List Nat):List Nat:=if b.length<c then b else b.drop c
def tkF (c:Nat) (b:List Nat) (f:Nat):Nat:=if b.length<c then orf f 30 else f
theorem ctake_any {w:World} {p f:Nat} {b:List Nat} (h:Rs w p b f) (c:Nat) (hc:c<18446744073709551616) :
  Calls Tryz.prog 293 #[.pointer (some ⟨p,0,none⟩),.int .u64 (c:Int)] w fun r w'=>(∃ v,r=.returned v/\Sv w' v (vals .u8 (tkB c b)))/\Rs w' p (tkR c b) (tkF c b f)/\Fr p w.heap.size w w':=by
 have HS:=hidden h
 obtain ⟨a,cap,h0,h1,h2,h3,h4,h5,h6,h7,h8,h9,h10⟩:=h.cells
 have HR:=hidden (crefuse_any h 30)
 by_cases hp:b.length<c
 ·have hp':(c:Int) > (b.length:Int):=by omega
  have HB:Hid (tkB c b=[]/\tkR c b=b/\tkF c b f=orf f 30):=⟨if_pos hp,if_pos hp,if_pos hp⟩
  clear h h6 h7 h8 h9 h10 hp
  go_enter Tryz.func293,Tryz.ntmps293
  go_wp2_with fail
  refine HR.out.mono ?_
  rintro e w1 ⟨rfl,hs1,hf1⟩
  have HS1:=hidden hs1
  have HF1:=hidden hf1
  clear hs1 hf1
  go_wp2_with fail
  go_ret
  rw [HB.out.1,HB.out.2.1,HB.out.2.2]
  exact ⟨⟨_,rfl,Sv.nil _⟩,HS1.out,HF1.out⟩
 ·have hp':¬ (c:Int) > (b.length:Int):=by omega
  have HB:Hid (tkB c b=b.take c/\tkR c b=b.drop c/\tkF c b f=f):=⟨if_neg hp,if_neg hp,if_neg hp⟩
  obtain ⟨A,hA,hSA⟩:=h9 c (by omega)
  have HSA:=hidden hSA
  have HF:=hidden ((Fr.refl p w.heap.size w).set 0 (.slice A (b.length-c) (cap-c)))
  have hT:Sv w (.slice a c cap) (vals .u8 (b.take c)):=by
   have:=h6.take (k:=c) (by rw [vals_length];omega)
   rwa [← vals_take] at this
  have hTb:0<(vals .u8 (b.take c)).length->∀ k,(Value.slice a c cap).ownBlock=some k->k<p:=fun h0 k hk=>h7 (by rw [vals_length,List.length_take] at h0;omega) k (by cases a with | none=>cases hk | some x=>exact hk)
  have HT:=hidden (hT.keptW hTb ((Below.refl p w).setCell (p:=⟨p,0,none⟩) (Nat.le_refl _) (.slice A (b.length-c) (cap-c))))
  clear h h6 h7 h8 h9 h10 hp hSA hT hTb
  go_enter Tryz.func293,Tryz.ntmps293
  go_wp2_with fail
  go_ret
  rw [HB.out.1,HB.out.2.1,HB.out.2.2]
  exact ⟨⟨_,rfl,HT.out⟩,HSA.out,HF.out⟩
end Go.Proofs.YtpljdjmpamjkhaaGreatDoor
set_option linter.unusedVariables false
set_option linter.unusedSimpArgs false
set_option maxRecDepth 100000
set_option maxHeartbeats 2000000
namespace Go.Proofs.YtpljdjmpamjkhaaGreatDoor
open Go.RowKit Go.Lib
theorem cnumber_any {w:World} {p f:Nat} {b:List Nat} (h:Rs w p b f) :
  Calls Tryz.prog 311 #[.pointer (some ⟨p,0,none⟩)] w fun r w'=>r=.returned (.int .u64 ((gt b).1:Int))/\Rs w' p (b.drop (gt b).2.1) (orf f (gt b).2.2)/\Fr p w.heap.size w w':=by
 have HS:=hidden h
 have HB:=hidden h.bs
 obtain ⟨a,cap,h0,h1,h2,h3,h4,h5,h6,h7,h8,h9,h10⟩:=h.cells
 obtain ⟨g1,g2,g3,g4⟩:=gt_form b
 have HG:=hidden (get_sv HB.out h6)
 clear h h6 h7 h8 h9 h10 g4
 generalize gt b=x at *
 obtain ⟨n,u,c⟩:=x
 simp only at *
 unfold tell at HG
 go_enter Tryz.func311,Tryz.ntmps311
 go_wp2_with fail
 refine HG.out.mono ?_
 rintro e w1 ⟨rfl,rfl⟩
 go_wp2_with fail
 refine (crefuse_any HS.out c).mono ?_
 rintro e w2 ⟨rfl,hs2,hf2⟩
 obtain ⟨A0,Cap,k0,k1,k2,k3,k4,k5,k6,k7,k8,k9,k10⟩:=hs2.cells
 obtain ⟨A,hA,hSA⟩:=k9 u g2
 have HSA:=hidden hSA
 have HF2:=hidden (hf2.set 0 (.slice A (b.length-u) (Cap-u)))
 clear hs2 hf2 k6 k7 k8 k9 k10 hSA h0 h1 h2 h3
 go_wp2_with fail
 go_ret
 exact ⟨rfl,HSA.out,HF2.out⟩
def chX:List Nat->Nat
 | []=>0
 | x::_=>if x<=1 then x else 0
def chF (b:List Nat) (f:Nat):Nat :=
 match b with
 | []=>orf f 30
 | x::_=>if x<=1 then f else orf f 40
theorem tk_one_cons (x:Nat) (t:List Nat) (f:Nat):tkB 1 (x::t)=[x]/\tkR 1 (x::t)=t/\tkF 1 (x::t) f=f:=by
 refine ⟨?_,?_,?_⟩
 ·unfold tkB;rw [if_neg (by simp)];rfl
 ·unfold tkR;rw [if_neg (by simp)];rfl
 ·unfold tkF;rw [if_neg (by simp)]
theorem choice_any {w:World} {p f:Nat} {b:List Nat} (h:Rs w p b f) :
  Calls Tryz.prog 275 #[.pointer (some ⟨p,0,none⟩),.int .u8 0,.int .u8 1] w fun r w'=>r=.returned (.int .u8 (chX b:Int))/\Rs w' p b.tail (chF b f)/\Fr p w.heap.size w w':=by
 have HT:=hidden (ctake_any h 1 (by omega))
 have HBS:=hidden h.bs
 have hlt:=h.lt
 clear h
 cases b with
 | nil =>
  have HE:Hid (tkB 1 []=[]/\tkR 1 []=[]/\tkF 1 [] f=orf f 30):=⟨rfl,rfl,rfl⟩
  rw [HE.out.1,HE.out.2.1,HE.out.2.2] at HT
  go_enter Tryz.func275,Tryz.ntmps275
  go_wp2_with fail
  refine HT.out.mono ?_
  rintro e w1 ⟨⟨v1,rfl,hv1⟩,hs1,hf1⟩
  have HS1:=hidden hs1
  have HF1:=hidden hf1
  obtain ⟨a,cap,rfl,_,_⟩:=hv1.form1
  rw [vals_length] at *
  clear hs1 hf1 hv1
  go_wp2_with fail
  go_ret
  exact ⟨rfl,HS1.out,HF1.out⟩
 | cons x t =>
  rw [(tk_one_cons x t f).1,(tk_one_cons x t f).2.1,(tk_one_cons x t f).2.2] at HT
  have hx:=HBS.out x (by simp)
  go_enter Tryz.func275,Tryz.ntmps275
  go_wp2_with fail
  refine HT.out.mono ?_
  rintro e w1 ⟨⟨v1,rfl,hv1⟩,hs1,hf1⟩
  have HS1:=hidden hs1
  have HF1:=hidden hf1
  obtain ⟨a,cap,rfl,_,hcm⟩:=hv1.form1
  have hcm':cap<=9223372036854775807:=by unfold maxLen at hcm;omega
  obtain ⟨g,off,rfl,hg,hcell⟩:=hv1.at1 (k:=0) (x:=.int .u8 (x:Int)) rfl
  rw [Nat.add_zero] at hcell
  rw [vals_length] at *
  clear hv1 hcm
  by_cases hx1:x<=1
  ·have HE:Hid (chX (x::t)=x/\chF (x::t) f=f):=⟨if_pos hx1,if_pos hx1⟩
   obtain rfl | rfl:x=0∨x=1:=by omega
   ·clear hs1 hf1
    go_wp2_with fail
    go_ret
    rw [HE.out.1,HE.out.2]
    exact ⟨rfl,HS1.out,HF1.out⟩
   ·clear hs1 hf1
    go_wp2_with fail
    go_ret
    rw [HE.out.1,HE.out.2]
    exact ⟨rfl,HS1.out,HF1.out⟩
  ·have HE:Hid (chX (x::t)=0/\chF (x::t) f=orf f 40):=⟨if_neg hx1,if_neg hx1⟩
   have hn0:((x:Int) != 0)=true:=by
    have:(x:Int)≠0:=by omega
    simpa using this
   have hn1:((x:Int) != 1)=true:=by
    have:(x:Int)≠1:=by omega
    simpa using this
   have HR:=hidden (crefuse_any hs1 40)
   clear hs1 hf1 hx1
   go_wp2_with fail
   refine HR.out.mono ?_
   rintro e w2 ⟨rfl,hs2,hf2⟩
   have HS2:=hidden hs2
   have HF2:=hidden (HF1.out.trans (hf2.mono HF1.out.size))
   clear hs2 hf2
   go_wp2_with fail
   go_ret
   rw [HE.out.1,HE.out.2]
   exact ⟨rfl,HS2.out,HF2.out⟩
theorem tkB_bs {c:Nat} {b:List Nat} (h:Bs b):Bs (tkB c b):=by
 unfold tkB
 split
 ·exact fun x hx=>by simp at hx
 ·exact h.take c
theorem cpacked_any {w:World} {p f:Nat} {b:List Nat} (h:Rs w p b f) (n:Nat) (hn:n<=256) :
  Calls Tryz.prog 276 #[.pointer (some ⟨p,0,none⟩),.int .i64 (n:Int)] w fun r w'=>(∃ v,r=.returned v/\OwnU w' w.heap.size v (unR (tkB (by8 n) b) n 1))/\Rs w' p (tkR (by8 n) b) (orf (tkF (by8 n) b f) (unE (tkB (by8 n) b) n 1))/\Fr p w.heap.size w w':=by
 have HB:=hidden h.bs
 have hlt:=h.lt
 have hby2:((n:Int)+8-1) / 8=((by8 n:Nat):Int):=by unfold by8;omega
 have hbl:by8 n<=2048:=by unfold by8;omega
 have HT:=hidden (ctake_any h (by8 n) (by omega))
 have HBT:=hidden (tkB_bs (c:=by8 n) h.bs)
 clear h
 generalize by8 n=L at *
 generalize tkB L b=tb at *
 generalize tkR L b=tr at *
 generalize tkF L b f=tf at *
 go_enter Tryz.func276,Tryz.ntmps276
 go_wp2_with fail
 refine HT.out.mono ?_
 rintro e w1 ⟨⟨v1,rfl,hv1⟩,hs1,hf1⟩
 have HS1:=hidden hs1
 have HF1:=hidden hf1
 have hz1:=hf1.size
 have HU:=hidden (unpack_anyC hv1.sx HBT.out (n:Int) 1)
 clear hs1 hf1 hv1
 go_wp2_with fail
 refine HU.out.mono ?_
 rintro e w2 ⟨v2,rfl,ho2,hb2⟩
 have HO2:=hidden (own_low ho2 hz1)
 have hz2:=hb2.size
 have HS2:=hidden (HS1.out.kept hb2 HS1.out.lt)
 have HF2:=hidden (HF1.out.trans (Fr.of_below (hb2.mono hz1)))
 clear ho2 hb2
 go_wp2_with fail
 refine (crefuse_any HS2.out _).mono ?_
 rintro e w3 ⟨rfl,hs3,hf3⟩
 have HS3:=hidden hs3
 have HO3:Hid (OwnU w3 w.heap.size v2 (unR tb n 1)):=hidden (hf3.own HO2.out hlt)
 have HF3:=hidden (HF2.out.trans (hf3.mono (by omega)))
 clear hs3 hf3
 go_wp2_with fail
 go_ret
 exact ⟨⟨_,rfl,HO3.out⟩,HS3.out,HF3.out⟩
theorem lastNumbers_any {w:World} {p f:Nat} {b:List Nat} (h:Rs w p b f) (n:Nat) :
  Calls Tryz.prog 278 #[.pointer (some ⟨p,0,none⟩),.int .i64 (n:Int)] w fun r w'=>(∃ v,r=.returned v/\OwnI w' w.heap.size v (readM b n).1)/\Rs w' p [] (orf f (readM b n).2)/\Fr p w.heap.size w w':=by
 have HS:=hidden h
 have hlt:=h.lt
 obtain ⟨a,cap,h0,h1,h2,h3,h4,h5,h6,h7,h8,h9,h10⟩:=h.cells
 have HR:=hidden (read_any h6 h.bs (n:Int))
 clear h h6 h7 h8 h9 h10
 unfold ReadPost at HR
 generalize readM b n=rd at *
 obtain ⟨l,er⟩:=rd
 simp only at *
 go_enter Tryz.func278,Tryz.ntmps278
 go_wp2_with fail
 refine HR.out.mono ?_
 rintro e w1 ⟨⟨v1,rfl,ho1⟩,hb1⟩
 have HO1:=hidden ho1
 have HS1:=hidden (HS.out.kept hb1 hlt)
 have HF1:=hidden (Fr.of_below (p:=p) hb1)
 have hz1:=hb1.size
 clear ho1 hb1 h0 h1 h2 h3
 go_wp2_with fail
 refine (crefuse_any HS1.out _).mono ?_
 rintro e w2 ⟨rfl,hs2,hf2⟩
 have HO2:=hidden (HO1.out.fr hf2 hlt)
 have HF2:=hidden (HF1.out.trans (hf2.mono hz1))
 have hz2:=hf2.size
 obtain ⟨A0,Cap,k0,k1,k2,k3,k4,k5,k6,k7,k8,k9,k10⟩:=hs2.cells
 have HS3:=hidden k10
 have HF3:=hidden (HF2.out.set 0 (.slice none 0 0))
 have HO3:=hidden (HO2.out.fr ((Fr.refl p w2.heap.size w2).set 0 (.slice none 0 0)) hlt)
 clear hs2 hf2 k6 k7 k8 k9 k10
 go_wp2_with fail
 go_ret
 exact ⟨⟨_,rfl,HO3.out⟩,HS3.out,HF3.out⟩
theorem countedNumbers_any {w:World} {p f:Nat} {b:List Nat} (h:Rs w p b f) (n:Nat) :
  Calls Tryz.prog 312 #[.pointer (some ⟨p,0,none⟩),.int .i64 (n:Int)] w fun r w'=>(∃ v,r=.returned v/\OwnI w' w.heap.size v (readM (tkB (gt b).1 (b.drop (gt b).2.1)) n).1) /\
   Rs w' p (tkR (gt b).1 (b.drop (gt b).2.1)) (orf (tkF (gt b).1 (b.drop (gt b).2.1) (orf f (gt b).2.2)) (readM (tkB (gt b).1 (b.drop (gt b).2.1)) n).2)/\Fr p w.heap.size w w':=by
 have hlt:=h.lt
 have HN:=hidden (cnumber_any h)
 have g1:=(gt_form b).1
 have HBD:=hidden (tkB_bs (c:=(gt b).1) (h.bs.drop (gt b).2.1))
 clear h
 generalize (gt b).1=sz at *
 generalize b.drop (gt b).2.1=b1 at *
 generalize orf f (gt b).2.2=f1 at *
 have HTK:=hidden (fun (W:World) (hs:Rs W p b1 f1)=>ctake_any hs sz g1)
 generalize tkB sz b1=tb at *
 generalize tkR sz b1=tr at *
 generalize tkF sz b1 f1=tf at *
 have HRD:=hidden (fun (W:World) (v:Value) (hv:Sv W v (vals .u8 tb))=>read_any hv HBD.out (n:Int))
 unfold ReadPost at HRD
 generalize readM tb n=rd at *
 obtain ⟨l,er⟩:=rd
 simp only at *
 go_enter Tryz.func312,Tryz.ntmps312
 go_wp2_with fail
 refine HN.out.mono ?_
 rintro e w1 ⟨rfl,hs1,hf1⟩
 have HT:=hidden (HTK.out _ hs1)
 have HF1:=hidden hf1
 have hz1:=hf1.size
 clear hs1 hf1
 go_wp2_with fail
 refine HT.out.mono ?_
 rintro e w2 ⟨⟨v2,rfl,hv2⟩,hs2,hf2⟩
 have HS2:=hidden hs2
 have HF2:=hidden (HF1.out.trans (hf2.mono hz1))
 have hz2:=hf2.size
 have HR:=hidden (HRD.out _ _ hv2)
 clear hs2 hf2 hv2
 go_wp2_with fail
 refine HR.out.mono ?_
 rintro e w3 ⟨⟨v3,rfl,ho3⟩,hb3⟩
 have HO3:=hidden (own_low ho3 (Nat.le_trans hz1 hz2))
 have HS3:=hidden (HS2.out.kept hb3 HS2.out.lt)
 have HF3:=hidden (HF2.out.trans (Fr.of_below (hb3.mono (Nat.le_trans hz1 hz2))))
 have hz3:=hb3.size
 clear ho3 hb3
 go_wp2_with fail
 refine (crefuse_any HS3.out _).mono ?_
 rintro e w4 ⟨rfl,hs4,hf4⟩
 have HO4:Hid (OwnI w4 w.heap.size v3 l):=hidden (hf4.own HO3.out hlt)
 have HS4:=hidden hs4
 have HF4:=hidden (HF3.out.trans (hf4.mono (by omega)))
 clear hs4 hf4
 go_wp2_with fail
 go_ret
 exact ⟨⟨_,rfl,HO4.out⟩,HS4.out,HF4.out⟩
end Go.Proofs.YtpljdjmpamjkhaaGreatDoor
