/- Files of rows: what was read may be written; no program. A reader of bytes in a block of its own: its state; refuse, number. Contracts: the reader's name. Contracts: the reader's field. -/
import Derived.Test.YtpljdjmpamjkhaaGreatDoorZbd
import Derived.Test.YtpljdjmpamjkhaaGreatDoorZap
import Derived.Test.YtpljdjmpamjkhaaGreatDoorZaw
set_option linter.unusedVariables false
set_option linter.unusedSimpArgs false
namespace Go.Proofs.YtpljdjmpamjkhaaGreatDoor
open Go.RowKit Go.Lib
def ColsA (fs:List Fd) (rs:List Row):Prop:=∀ r∈rs,r.length=fs.length/\∀ c∈r,Fine c
theorem rowsOf_cols_fine {fs:List Fd} {n:Nat} {cols:List (List Cl)} (hw:Whl fs n cols) (hc:cols.length=fs.length):ColsA fs (rowsOf n cols):=by
 intro r hr
 obtain ⟨i,hi,rfl⟩:=List.mem_map.1 hr
 refine ⟨by rw [List.length_map];exact hc,fun c hcm=>?_⟩
 obtain ⟨l,hl,rfl⟩:=List.mem_map.1 hcm
 obtain ⟨k,hk,rfl⟩:=List.mem_iff_getElem.1 hl
 obtain ⟨h1,h2⟩:=hw k hk
 have hlt:i<cols[k].length:=by rw [h2];simpa using hi
 rw [List.getD_eq_getElem?_getD,List.getElem?_eq_getElem hlt]
 exact (h1.2.2 _ (List.getElem_mem hlt)).fine
theorem grK_group {fs:List Fd} {n:Nat} {s:S3} (hn:n<=64) (hk:∀ f∈fs,1<=f.2.2.1/\f.2.2.1<=3) (hb:Bs s.1) (h:(grK fs n s fs.length).2.2.2.2=false) :
  ∃ p,((grK fs n s fs.length).1,(grK fs n s fs.length).2.1)=grp fs p/\p.length=n/\ColsA fs p/\Bs (grK fs n s fs.length).2.2.1:=by
 obtain ⟨cols,h1,h2,h3,h4,h5⟩:=grK_whole hn hk hb (Nat.le_refl _) h
 refine ⟨rowsOf n cols,?_,rowsOf_length _ _,rowsOf_cols_fine h2 h1,h5⟩
 unfold grp
 rw [h3,h4]
 congr 1
 apply List.ext_getElem?
 intro i
 rw [List.getElem?_map,List.getElem?_map]
 by_cases hi:i<fs.length
 ·rw [List.getElem?_range hi,List.getElem?_eq_getElem (by omega)]
  simp only [Option.map_some]
  rw [colA_rowsOf (by omega) (h2 i (by omega)).2]
 ·rw [List.getElem?_eq_none (by omega),List.getElem?_eq_none (by simp;omega)]
  rfl
theorem fiJ_whole {fs:List Fd} {g tot:Nat} {s:S3} (hg:g<=64) (hk:∀ f∈fs,1<=f.2.2.1/\f.2.2.1<=3) (hb:Bs s.1):∀ j:Nat,(fiJ fs g tot s j).2.2.2=false ->
  ∃ L:List (List Row),(fiJ fs g tot s j).1=L.map (grp fs)/\L.length=j/\(∀ i (h:i<L.length),L[i].length=min (tot-i*g) g)/\(∀ p∈L,ColsA fs p)/\Bs (fiJ fs g tot s j).2.1
 | 0,h=>⟨[],rfl,rfl,fun i h=>by simp at h,fun p hp=>by simp at hp,hb⟩
 | j+1,h=>by
  have h0:(fiJ fs g tot s j).2.2.2=false:=fiJ_failed (Nat.le_succ j) h
  obtain ⟨L,h1,h2,h3,h4,h5⟩:=fiJ_whole hg hk hb j h0
  obtain ⟨p,e1,e2,e3,e4⟩:=grK_group (n:=min (tot-j*g) g) (by omega) hk h5 h
  refine ⟨L++[p],?_,by simp [h2],?_,?_,e4⟩
  ·show (fiJ fs g tot s j).1++[_]=_
   rw [e1,h1,List.map_append]
   rfl
  ·intro i hi
   rcases Nat.lt_or_ge i L.length with h6 | h6
   ·rw [List.getElem_append_left h6]
    exact h3 i h6
   ·obtain rfl:i=L.length:=by simp at hi;omega
    rw [List.getElem_append_right (Nat.le_refl _)]
    simp only [Nat.sub_self,List.getElem_cons_zero]
    rw [e2,h2]
  ·intro q hq
   rcases List.mem_append.1 hq with hq | hq
   ·exact h4 q hq
   ·rw [List.mem_singleton.1 hq]
    exact e3
theorem flatA_take {g tot:Nat} {L:List (List Row)} (h:∀ i (h:i<L.length),L[i].length=min (tot-i*g) g):∀ j,j<=L.length->j*g<=tot->(L.take j).flatten.length=j*g
 | 0,_,_=>by simp
 | j+1,hj,hg=>by
  rw [List.take_succ_eq_append_getElem (by omega),List.flatten_append,List.length_append,flatA_take h j (by omega) (by rw [Nat.add_mul] at hg;omega)]
  simp only [List.flatten_cons,List.flatten_nil,List.append_nil]
  rw [h j (by omega),Nat.add_mul]
  rw [Nat.add_mul] at hg
  omega
theorem flat_prt {g tot:Nat} (hg:0<g) {L:List (List Row)} (h:∀ i (h:i<L.length),L[i].length=min (tot-i*g) g) (hL:L.length=nps g tot) {j:Nat} (hj:j<L.length):prt g L.flatten j=L[j]:=by
 have hlt:j*g<tot:=(nps_le hg).1 (by omega)
 have e:L.flatten=(L.take j).flatten++(L[j]++(L.drop (j+1)).flatten):=by
  conv=>lhs;rw [← List.take_append_drop j L,List.flatten_append,List.drop_eq_getElem_cons hj,List.flatten_cons]
 have hf:=flatA_take h j (by omega) (by omega)
 unfold prt
 rw [e,← hf,List.drop_left]
 have hl:=h j hj
 by_cases hc:(j+1)*g<tot
 ·have:L[j].length=g:=by rw [hl];rw [Nat.add_mul] at hc;omega
  rw [← this,List.take_left]
 ·have hn:¬ j+1<nps g tot:=fun h2=>hc ((nps_le hg).1 h2)
  have:L.drop (j+1)=[]:=List.drop_eq_nil_of_le (by omega)
  rw [this,List.flatten_nil,List.append_nil]
  exact List.take_of_length_le (by omega)
theorem flat_total {g tot:Nat} (hg:0<g) {L:List (List Row)} (h:∀ i (h:i<L.length),L[i].length=min (tot-i*g) g) (hL:L.length=nps g tot):L.flatten.length=tot:=by
 rcases Nat.eq_zero_or_pos L.length with h0 | h0
 ·have:L=[]:=List.eq_nil_of_length_eq_zero h0
  subst this
  have:¬ 0<nps g tot:=by rw [← hL];simp
  rw [nps_le hg] at this
  simp
  omega
 ·have hj:L.length-1<L.length:=by omega
  have hlt:(L.length-1)*g<tot:=(nps_le hg).1 (by omega)
  have hf:=flatA_take h (L.length-1) (by omega) (by omega)
  have hn:¬ L.length<nps g tot:=by omega
  rw [nps_le hg] at hn
  have e:L.flatten=(L.take (L.length-1)).flatten++(L[L.length-1]++(L.drop (L.length-1+1)).flatten):=by
   conv=>lhs;rw [← List.take_append_drop (L.length-1) L,List.flatten_append,List.drop_eq_getElem_cons hj,List.flatten_cons]
  have hd:L.drop (L.length-1+1)=[]:=List.drop_eq_nil_of_le (by omega)
  rw [e,List.length_append,hf,hd,List.flatten_nil,List.append_nil,h _ hj]
  have:L.length*g=(L.length-1)*g+g:=by
   conv=>lhs;rw [show L.length=L.length-1+1 by omega,Nat.add_mul,Nat.one_mul]
  omega
theorem bindR_invA {α β : Type} {d:List Nat->Except Nat (α×List Nat)} {f:α->List Nat->Except Nat (β×List Nat)} {b r:List Nat} {y:β} (h:bindR d f b=.ok (y,r)):∃ x s,d b=.ok (x,s)/\f x s=.ok (y,r):=by
 cases hd:d b with
 | error e=>rw [bindR_error hd] at h;cases h
 | ok q =>
  obtain ⟨x,s⟩:=q
  rw [bindR_ok hd] at h
  exact ⟨x,s,rfl,h⟩
theorem numU_inv {room n:Nat} {b r:List Nat} (h:numU room b=.ok (n,r)):n<=room:=by
 unfold numU at h
 split at h
 ·cases h
 ·split at h
  ·cases h
  ·next h1 =>
   simp only [Except.ok.injEq,Prod.mk.injEq] at h
   omega
theorem fldU_inv {b r:List Nat} {f:Fd} (h:fldU b=.ok (f,r)):Okf f:=by
 unfold fldU at h
 obtain ⟨i,s1,e1,h⟩:=bindR_invA h
 obtain ⟨t,s2,e2,h⟩:=bindR_invA h
 obtain ⟨k,s3,e3,h⟩:=bindR_invA h
 obtain ⟨n,s4,e4,h⟩:=bindR_invA h
 simp only [Except.ok.injEq,Prod.mk.injEq] at h
 obtain ⟨rfl,_⟩:=h
 have h1:=numU_inv e1
 have h3:=numU_inv e3
 exact ⟨by show i<_;omega,by show k<_;omega⟩
theorem fldsU_inv:∀ {n:Nat} {b r:List Nat} {l:List Fd},fldsU n b=.ok (l,r)->∀ f∈l,Okf f
 | 0,b,r,l,h=>by
  simp only [fldsU,Except.ok.injEq,Prod.mk.injEq] at h
  obtain ⟨rfl,_⟩:=h
  intro f hf
  simp at hf
 | n+1,b,r,l,h=>by
  unfold fldsU at h
  obtain ⟨l1,s1,e1,h⟩:=bindR_invA h
  obtain ⟨f1,s2,e2,h⟩:=bindR_invA h
  simp only [Except.ok.injEq,Prod.mk.injEq] at h
  obtain ⟨rfl,_⟩:=h
  intro f hf
  rcases List.mem_append.1 hf with hf | hf
  ·exact fldsU_inv e1 f hf
  ·rw [List.mem_singleton.1 hf]
   exact fldU_inv e2
theorem unpackM_inv {b r:List Nat} {id:Nat} {fs:List Fd} (h:unpackM b=.ok ((id,fs),r)):chk id fs=0/\id<4294967296/\∀ f∈fs,Okf f:=by
 unfold unpackM at h
 obtain ⟨q,s1,e1,h⟩:=bindR_invA h
 unfold schU at e1
 obtain ⟨i,s2,e2,e1⟩:=bindR_invA e1
 obtain ⟨n,s3,e3,e1⟩:=bindR_invA e1
 obtain ⟨l,s4,e4,e1⟩:=bindR_invA e1
 simp only [Except.ok.injEq,Prod.mk.injEq] at e1
 obtain ⟨rfl,rfl⟩:=e1
 have h2:=numU_inv e2
 by_cases hc:chk i l=0
 ·rw [if_pos hc] at h
  simp only [Except.ok.injEq,Prod.mk.injEq] at h
  obtain ⟨⟨rfl,rfl⟩,_⟩:=h
  exact ⟨hc,by omega,fldsU_inv e4⟩
 ·rw [if_neg hc] at h
  cases h
theorem readF_whole {b:List Nat} (hb:Bs b) {id g:Nat} {fs:List Fd} {gs:List Gr} (h:readF b=some (id,fs,g,gs)) :
  chk id fs=0/\id<4294967296/\(∀ f∈fs,Okf f)/\1<=g/\g<=64/\(allR gs).length<=256/\ColsA fs (allR gs)/\gs=(List.range (nps g (allR gs).length)).map fun i=>grp fs (prt g (allR gs) i):=by
 unfold readF at h
 split at h
 ·cases h
 ·split at h
  ·cases h
  ·split at h
   ·cases h
   ·next id' fs' r hu =>
    split at h
    ·cases h
    ·next hn =>
     simp only [Option.some.injEq,Prod.mk.injEq] at h
     obtain ⟨rfl,rfl,hg,rfl⟩:=h
     obtain ⟨hc,hi,ho⟩:=unpackM_inv hu
     have hk:=chk_kinds hc
     have hfl:=Bool.eq_false_iff.2 hn
     have hs:=hfl
     unfold restF at hs
     have hst:=fiJ_failed (Nat.zero_le _) hs
     simp only [fiJ,Bool.or_eq_false_iff] at hst
     have hg1:=valW_lo hst.2
     have hg2:=valW_le 1 64 (rstW r)
     obtain ⟨L,h1,h2,h3,h4,h5⟩:=fiJ_whole hg2 hk (hb.take _) _ hs
     have ht:=flat_total (by omega) h3 h2
     have hall:allR (restF fs' (b.take (b.length-4-leN (b.drop (b.length-4)))) r).1=L.flatten:=by
      unfold restF allR
      rw [h1,List.map_map]
      congr 1
      exact List.map_id'' (fun _=>rfl) _
     rw [hall,← hg]
     have ht2:=valW_le 0 256 r
     refine ⟨hc,hi,ho,hg1,hg2,by omega,?_,?_⟩
     ·intro x hx
      obtain ⟨p,hp,hxp⟩:=List.mem_flatten.1 hx
      exact h4 p hp x hxp
     ·unfold restF
      rw [h1,ht]
      apply List.ext_getElem?
      intro i
      rw [List.getElem?_map,List.getElem?_map]
      by_cases hi2:i<L.length
      ·rw [List.getElem?_eq_getElem hi2,List.getElem?_range (by omega)]
       simp only [Option.map_some]
       rw [flat_prt (by omega) h3 h2 hi2]
      ·rw [List.getElem?_eq_none (by omega),List.getElem?_eq_none (by simp;omega)]
       rfl
end Go.Proofs.YtpljdjmpamjkhaaGreatDoor
set_option linter.unusedVariables false
set_option linter.unusedSimpArgs false
set_option maxRecDepth 100000
set_option maxHeartbeats 4000000
namespace Go.Proofs.YtpljdjmpamjkhaaGreatDoor
open Go.RowKit Go.Lib
def St (T:Nat) (W:World) (p:Nat) (b:List Nat) (f:Nat):Prop :=
 ∃ a cap,W.heap[p]?=some (.cells #[.slice a b.length cap,.int .i64 (f:Int)] T (0,0))/\b.length<=cap/\cap<=maxLen/\Bs b/\(a=none->cap=0) /\
  (0<b.length->∃ g off,a=some ⟨g,off,none⟩/\g<p/\∀ j (h:j<b.length),W.cell? ⟨g,off+j,none⟩=some (.int .u8 (b[j]:Int)))
theorem St.bs {T:Nat} {W:World} {p:Nat} {b:List Nat} {f:Nat} (h:St T W p b f):Bs b:=by obtain ⟨_,_,_,_,_,h,_⟩:=h;exact h
theorem St.lt {T:Nat} {W:World} {p:Nat} {b:List Nat} {f:Nat} (h:St T W p b f):p<W.heap.size:=by obtain ⟨_,_,h,_⟩:=h;exact (Array.getElem?_eq_some_iff.1 h).1
theorem St.kept {T:Nat} {W W':World} {p B:Nat} {b:List Nat} {f:Nat} (h:St T W p b f) (hb:Below B W W') (hp:p<B):St T W' p b f:=by
 obtain ⟨a,cap,h1,h2,h3,h4,h5,h6⟩:=h
 refine ⟨a,cap,(hb.block p hp).trans h1,h2,h3,h4,h5,fun h0=>?_⟩
 obtain ⟨g,off,e,hg,hc⟩:=h6 h0
 exact ⟨g,off,e,hg,fun j hj=>(hb.cell (p:=⟨g,off+j,none⟩) (show g<B by omega)).trans (hc j hj)⟩
theorem St.cells {T:Nat} {W:World} {p:Nat} {b:List Nat} {f:Nat} (h:St T W p b f) :
  ∃ a cap,W.cell? ⟨p,0,none⟩=some (.slice a b.length cap)/\W.cell? ⟨p,1,none⟩=some (.int .i64 (f:Int))/\W.frozen? ⟨p,0,none⟩=false/\W.frozen? ⟨p,1,none⟩=false /\
   b.length<=cap/\cap<=9223372036854775807/\Sv W (.slice a b.length cap) (vals .u8 b)/\(a=none->cap=0) /\
   (∀ f':Nat,St T (W.setCell ⟨p,1,none⟩ (.int .i64 (f':Int))) p b f') /\
   (∀ A k,k<=b.length->(k=b.length->(A=none->cap-k=0))->(k<b.length->∃ g off,a=some ⟨g,off,none⟩/\A=some ⟨g,off+k,none⟩)->St T (W.setCell ⟨p,0,none⟩ (.slice A (b.length-k) (cap-k))) p (b.drop k) f):=by
 have hlt:=h.lt
 obtain ⟨a,cap,h1,h2,h3,h4,h5,h6⟩:=h
 have hsv:Sv W (.slice a b.length cap) (vals .u8 b):=by
  refine ⟨a,cap,by rw [vals_length],by rw [vals_length];omega,h3,h5,fun h0=>?_⟩
  rw [vals_length] at h0
  obtain ⟨g,off,e,hg,hc⟩:=h6 h0
  refine ⟨g,off,e,by omega,fun j x hj=>?_⟩
  have hj':j<b.length:=by
   have:=(List.getElem?_eq_some_iff.1 hj).1
   rwa [vals_length] at this
  rw [vals_get hj'] at hj
  rw [hc j hj']
  exact hj
 refine ⟨a,cap,by rw [cell_block h1];rfl,by rw [cell_block h1];rfl,by simp [World.frozen?,h1],by simp [World.frozen?,h1],h2,by unfold maxLen at h3;omega,hsv,h5,fun f'=>?_,fun A k hk hA0 hA1=>?_⟩
 ·refine ⟨a,cap,by rw [heap_set h1];rfl,h2,h3,h4,h5,fun h0=>?_⟩
  obtain ⟨g,off,e,hg,hc⟩:=h6 h0
  refine ⟨g,off,e,hg,fun j hj=>?_⟩
  rw [World.cell?_of_block (w:=W) (Below.heap_setCell _ _ _ _ (show g≠p by omega))]
  exact hc j hj
 ·have hl:(b.drop k).length=b.length-k:=List.length_drop
  refine ⟨A,cap-k,by rw [heap_set h1,hl];rfl,by omega,by omega,h4.drop k,fun hA=>?_,fun h0=>?_⟩
  ·rcases Nat.lt_or_ge k b.length with hlt | hge
   ·obtain ⟨g,off,_,e2⟩:=hA1 hlt
    rw [hA] at e2
    cases e2
   ·exact hA0 (by omega) hA
  ·have hlt:k<b.length:=by omega
   obtain ⟨g,off,e1,e2⟩:=hA1 hlt
   obtain ⟨g',off',e,hg,hc⟩:=h6 (by omega)
   rw [e1] at e
   simp only [Option.some.injEq,Addr.mk.injEq,and_true] at e
   obtain ⟨rfl,rfl⟩:=e
   refine ⟨g,off+k,e2,hg,fun j hj=>?_⟩
   rw [World.cell?_of_block (w:=W) (Below.heap_setCell _ _ _ _ (show g≠p by omega)),Nat.add_assoc,hc (k+j) (by omega)]
   simp
theorem refuse_any {w:World} {p f:Nat} {b:List Nat} (h:St 200 w p b f) (e:Nat) :
  Calls Tryz.prog 140 #[.pointer (some ⟨p,0,none⟩),.int .i64 (e:Int)] w fun r w'=>r=.returned (.tuple #[])/\St 200 w' p b (orf f e)/\Fr p w.heap.size w w':=by
 have HS:=hidden h
 obtain ⟨a,cap,h0,h1,h2,h3,h4,h5,h6,h7,h8,h9⟩:=h.cells
 have H8:=hidden (h8 e)
 have HF:=hidden ((Fr.refl p w.heap.size w).set 1 (.int .i64 (e:Int)))
 clear h h6 h8 h9
 by_cases hf:((f:Int)==0)=true
 ·have hf':f=0:=by simpa using hf
  have HO:Hid (orf f e=e):=by show _=_;unfold orf;rw [if_pos hf']
  clear hf'
  go_enter Tryz.func140,Tryz.ntmps140
  go_wp2_with fail
  go_end0
  rw [HO.out]
  exact ⟨rfl,H8.out,HF.out⟩
 ·have hff:((f:Int)==0)=false:=by simpa using hf
  have HO:Hid (orf f e=f):=by show _=_;unfold orf;rw [if_neg (fun e=>hf (by simp [e]))]
  clear hf
  go_enter Tryz.func140,Tryz.ntmps140
  go_wp2_with fail
  go_end0
  rw [HO.out]
  exact ⟨rfl,HS.out,Fr.refl _ _ _⟩
def RdPost (T:Nat) {α : Type} (m:List Nat->Except Nat (α×List Nat)) (val:α->Value) (ok:α->Prop) (p:Nat) (b:List Nat) (f:Nat) (w:World) (r:Ending) (w':World):Prop :=
 ∃ (x:α) (b':List Nat) (f':Nat),r=.returned (val x)/\ok x/\St T w' p b' f'/\Rds m b f x b' f'/\Fr p w.heap.size w w'
theorem rds_num_err {room:Nat} {l:List Nat} {f:Nat} (hc:(gt l).2.2≠0):Rds (numU room) l f 0 l (orf f (gt l).2.2):=by
 have h:=rds_num (room:=room) (l:=l) (f:=f)
 rw [if_pos (Or.inl hc),if_pos (Or.inl hc),if_pos hc] at h
 exact h
theorem rds_num_room {room:Nat} {l:List Nat} {f:Nat} (hc:(gt l).2.2=0) (hn:room<(gt l).1):Rds (numU room) l f 0 l (orf f 40):=by
 have h:=rds_num (room:=room) (l:=l) (f:=f)
 rw [if_pos (Or.inr hn),if_pos (Or.inr hn),if_neg (show ¬ (gt l).2.2≠0 by omega),if_pos hn] at h
 exact h
theorem rds_num_ok {room:Nat} {l:List Nat} {f:Nat} (hc:(gt l).2.2=0) (hn:¬ room<(gt l).1):Rds (numU room) l f (gt l).1 (l.drop (gt l).2.1) f:=by
 have h:=rds_num (room:=room) (l:=l) (f:=f)
 have h2:¬ ((gt l).2.2≠0∨room<(gt l).1):=by omega
 rw [if_neg h2,if_neg h2,if_neg (show ¬ (gt l).2.2≠0 by omega),if_neg hn,show (if f=0 then 0 else f)=f by split<;>omega] at h
 exact h
theorem gt_used {b:List Nat} (h:(gt b).2.2=0) (hb:Bs b):0<(gt b).2.1/\(gt b).2.1<=b.length:=by
 obtain ⟨n,u,c,hg⟩:∃ n u c,gt b=(n,u,c):=⟨_,_,_,rfl⟩
 rw [hg] at h ⊢
 simp only at h
 subst h
 obtain ⟨_,h2,h3⟩:=gt_ok hb hg
 have:=uv_pos n
 have h4:=congrArg List.length h2
 simp only [List.length_append,List.length_drop] at h4
 simp only
 omega
theorem number_any {w:World} {p f:Nat} {b:List Nat} (h:St 200 w p b f) (room:Nat) (hroom:room<18446744073709551616) :
  Calls Tryz.prog 178 #[.pointer (some ⟨p,0,none⟩),.int .u64 (room:Int)] w (RdPost 200 (numU room) (fun x=>.int .u64 ((x:Nat):Int)) (fun x=>x<=room) p b f w):=by
 have HS:=hidden h
 have HB:=hidden h.bs
 have HR1:=hidden (rds_num_err (room:=room) (l:=b) (f:=f))
 have HR2:=hidden (rds_num_room (room:=room) (l:=b) (f:=f))
 have HR3:=hidden (rds_num_ok (room:=room) (l:=b) (f:=f))
 obtain ⟨a,cap,h0,h1,h2,h3,h4,h5,h6,h7,h8,h9⟩:=h.cells
 obtain ⟨g1,g2,g3,g4⟩:=gt_form b
 have HG:=hidden (get_sv HB.out h6)
 have HU:=hidden (fun e=>gt_used (b:=b) e HB.out)
 have HSV:=hidden h6
 have H9:=hidden h9
 clear h h6 h8 h9 g3
 generalize gt b=x at *
 obtain ⟨n,u,c⟩:=x
 simp only at *
 unfold tell at HG
 by_cases hc:c=0
 ·subst hc
  by_cases hn:room<n
  ·have hn':(n:Int) > (room:Int):=by omega
   have HR:=hidden (HR2.out rfl hn)
   clear HR1 HR2 HR3
   go_enter Tryz.func178,Tryz.ntmps178
   go_wp2_with fail
   refine HG.out.mono ?_
   rintro e w1 ⟨rfl,rfl⟩
   go_wp2_with fail
   refine (refuse_any HS.out 40).mono ?_
   rintro e w2 ⟨rfl,hs2,hf2⟩
   have HS2:=hidden hs2
   clear hs2
   go_wp2_with fail
   go_ret
   exact ⟨0,b,_,rfl,Nat.zero_le _,HS2.out,HR.out,hf2⟩
  ·have hn':¬ (n:Int) > (room:Int):=by omega
   have HR:=hidden (HR3.out rfl hn)
   clear HR1 HR2 HR3
   obtain ⟨hu1,hu2⟩:=HU.out rfl
   have hbl:0<b.length:=by omega
   obtain ⟨g,off,ha⟩:∃ g off,a=some ⟨g,off,none⟩:=by
    obtain ⟨a',cap',e,_,_,_,hx⟩:=HSV.out
    simp only [Value.slice.injEq] at e
    obtain ⟨b',off',e2,_⟩:=hx (by rw [vals_length];exact hbl)
    exact ⟨b',off',e.1.trans e2⟩
   subst ha
   obtain ⟨A,hA⟩:∃ A,(if cap=u then (some ⟨g,off,none⟩:Option Addr) else some ⟨g,off+u,none⟩)=A:=⟨_,rfl⟩
   have HST:=hidden (H9.out A u hu2 (fun hk hA'=>by
    rw [hA'] at hA
    split at hA<;>cases hA) (fun hk=>⟨g,off,rfl,by rw [← hA,if_neg (by omega)]⟩))
   have HFR:=hidden ((Fr.refl p w.heap.size w).set 0 (.slice A (b.length-u) (cap-u)))
   clear hbl
   go_enter Tryz.func178,Tryz.ntmps178
   go_wp2_with fail
   refine HG.out.mono ?_
   rintro e w1 ⟨rfl,rfl⟩
   go_wp2_with fail
   go_ret
   exact ⟨n,b.drop u,f,rfl,by omega,HST.out,HR.out,HFR.out⟩
 ·have hnz:n=0:=by omega
  subst hnz
  have hc':((c:Int) != 0)=true:=by simp [hc]
  have hn':¬ (0:Int) > (room:Int):=by omega
  have HR:=hidden (HR1.out hc)
  clear hc HR1 HR2 HR3
  go_enter Tryz.func178,Tryz.ntmps178
  go_wp2_with fail
  refine HG.out.mono ?_
  rintro e w1 ⟨rfl,rfl⟩
  go_wp2_with fail
  refine (refuse_any HS.out c).mono ?_
  rintro e w2 ⟨rfl,hs2,hf2⟩
  have HS2:=hidden hs2
  clear hs2
  go_wp2_with fail
  go_ret
  exact ⟨0,b,_,rfl,Nat.zero_le _,HS2.out,HR.out,hf2⟩
end Go.Proofs.YtpljdjmpamjkhaaGreatDoor
set_option linter.unusedVariables false
set_option linter.unusedSimpArgs false
set_option maxRecDepth 100000
set_option maxHeartbeats 4000000
namespace Go.Proofs.YtpljdjmpamjkhaaGreatDoor
open Go.RowKit Go.Lib
theorem rds_text_short {n:Nat} {l:List Nat} {f:Nat} (h:l.length<n):Rds (textR n) l f (bytesT []) l (orf f 30):=by
 refine ⟨fun h0=>?_,fun h0=>by unfold orf;rw [if_neg h0]⟩
 unfold textR orf
 rw [if_pos h,if_pos h0,if_neg (by omega)]
theorem rds_text_ok {n:Nat} {l:List Nat} {f:Nat} (h:¬ l.length<n):Rds (textR n) l f (bytesT (l.take n)) (l.drop n) f:=by
 refine ⟨fun h0=>?_,fun _=>rfl⟩
 unfold textR
 rw [if_neg h,if_pos h0]
theorem name_any {w:World} {p f:Nat} {b:List Nat} (h:St 200 w p b f) :
  Calls Tryz.prog 212 #[.pointer (some ⟨p,0,none⟩)] w (RdPost 200 (textU 16) (fun s=>.string s) (fun s=>s.size<=16) p b f w):=by
 have HN:=hidden (number_any h 16 (by omega))
 clear h
 go_enter Tryz.func212,Tryz.ntmps212
 go_wp2_with fail
 refine HN.out.mono ?_
 rintro e w1 ⟨n,b1,f1,rfl,hn,hs1,hr1,hf1⟩
 have HS1:=hidden hs1
 have HR1:=hidden hr1
 have HF1:=hidden hf1
 have HB1:=hidden hs1.bs
 obtain ⟨a,cap,h0,h1,h2,h3,h4,h5,h6,h7,h8,h9⟩:=hs1.cells
 have HSV:=hidden h6
 have H9:=hidden h9
 have H7:=hidden h7
 clear hs1 hr1 hf1 h6 h8 h9 h7 HN
 by_cases hsh:b1.length<n
 ·have hsh':(n:Int) > (b1.length:Int):=by omega
  have HT:=hidden (HR1.out.bind (rds_text_short (f:=f1) hsh))
  go_wp2_with fail
  refine (refuse_any HS1.out 30).mono ?_
  rintro e w2 ⟨rfl,hs2,hf2⟩
  have HS2:=hidden hs2
  have HF2:=hidden (HF1.out.trans (hf2.mono HF1.out.size))
  clear hs2 hf2
  go_wp2_with fail
  go_ret
  exact ⟨bytesT [],b1,_,rfl,by show (bytesT []).size<=16;rw [bytesT_size];simp,HS2.out,HT.out,HF2.out⟩
 ·have hsh':¬ (n:Int) > (b1.length:Int):=by omega
  have HT:=hidden (HR1.out.bind (rds_text_ok (f:=f1) hsh))
  have hcv:=(HSV.out.take (k:=n) (by rw [vals_length];omega))
  have e1:(vals .u8 b1).take n=vals .u8 (b1.take n):=by simp [vals,List.map_take]
  rw [e1] at hcv
  have hcv2:=hcv.conv (HB1.out.take n)
  rw [txt_eq] at hcv2
  have HLT:Hid ((bytesT (b1.take n)).size<=16):=hidden (by rw [bytesT_size,List.length_take];omega)
  have hncap:(n:Int)<=(cap:Int):=by omega
  have hnlen:(n:Int)<=(b1.length:Int):=by omega
  have hnn:(0:Int)<=(n:Int):=by omega
  have hnt:((n:Int)).toNat=n:=by omega
  clear hcv e1
  generalize bytesT (b1.take n)=TX at *
  rcases Nat.eq_zero_or_pos b1.length with hz | hp
  ·have hn0:n=0:=by omega
   subst hn0
   cases a with
   | none =>
    have hc0:=H7.out rfl
    subst hc0
    have hst:=(H9.out none 0 (by omega) (fun _ _=>rfl) (fun h=>by omega))
    rw [hz] at hst
    have HST:=hidden hst
    have HF2:=hidden (HF1.out.set 0 (.slice none 0 0))
    clear hst
    go_wp2_with fail
    go_ret
    exact ⟨TX,b1.drop 0,f1,rfl,HLT.out,HST.out,HT.out,HF2.out⟩
   | some ad =>
    have hst:=(H9.out (some ad) 0 (by omega) (fun _ hA'=>by cases hA') (fun h=>by omega))
    rw [hz] at hst
    have HST:=hidden hst
    have HF2:=hidden (HF1.out.set 0 (.slice (some ad) 0 cap))
    clear hst
    go_wp2_with fail
    go_ret
    exact ⟨TX,b1.drop 0,f1,rfl,HLT.out,HST.out,HT.out,HF2.out⟩
  ·obtain ⟨g,off,ha⟩:∃ g off,a=some ⟨g,off,none⟩:=by
    obtain ⟨a',cap',e,_,_,_,hx⟩:=HSV.out
    simp only [Value.slice.injEq] at e
    obtain ⟨b',off',e2,_⟩:=hx (by rw [vals_length];exact hp)
    exact ⟨b',off',e.1.trans e2⟩
   subst ha
   obtain ⟨A,hA⟩:∃ A,(if cap=n then (some ⟨g,off,none⟩:Option Addr) else some ⟨g,off+n,none⟩)=A:=⟨_,rfl⟩
   have HST:=hidden (H9.out A n (by omega) (fun hk hA'=>by
    rw [hA'] at hA
    split at hA<;>cases hA) (fun hk=>⟨g,off,rfl,by rw [← hA,if_neg (by omega)]⟩))
   have HF2:=hidden (HF1.out.set 0 (.slice A (b1.length-n) (cap-n)))
   go_wp2_with fail
   go_ret
   exact ⟨TX,b1.drop n,f1,rfl,HLT.out,HST.out,HT.out,HF2.out⟩
end Go.Proofs.YtpljdjmpamjkhaaGreatDoor
set_option linter.unusedVariables false
set_option linter.unusedSimpArgs false
set_option maxRecDepth 100000
set_option maxHeartbeats 4000000
namespace Go.Proofs.YtpljdjmpamjkhaaGreatDoor
open Go.RowKit Go.Lib
def Mid (w:World) (p:Nat) (W:World) (b:List Nat) (f:Nat) (x0 x1 x2 x3:Value):Prop :=
 St 200 W p b f/\p<w.heap.size/\W.heap[w.heap.size]?=some (.cells #[.int .u32 0,.string ⟨#[]⟩,.int .u8 0,.bool false] 81 (0,0)) /\
 W.heap[w.heap.size+1]?=some (.cells #[x0,x1,x2,x3] 81 (0,0))/\Fr p w.heap.size w W
theorem Mid.begin {w:World} {p f:Nat} {b:List Nat} (h:St 200 w p b f) :
  Mid w p ((w.alloc (.cells #[.int .u32 0,.string ⟨#[]⟩,.int .u8 0,.bool false] 81)).alloc (.cells #[.int .u32 0,.string ⟨#[]⟩,.int .u8 0,.bool false] 81)) b f (.int .u32 0) (.string ⟨#[]⟩) (.int .u8 0) (.bool false):=by
 have hbW:=((Below.refl w.heap.size w).alloc (Nat.le_refl _) (.cells #[.int .u32 0,.string ⟨#[]⟩,.int .u8 0,.bool false] 81)).alloc (by rw [World.size_alloc];omega) (.cells #[.int .u32 0,.string ⟨#[]⟩,.int .u8 0,.bool false] 81)
 have hz0:(w.alloc (.cells #[.int .u32 0,.string ⟨#[]⟩,.int .u8 0,.bool false] 81)).heap.size=w.heap.size+1:=World.size_alloc _ _
 have hb1:=below_one (w.alloc (.cells #[.int .u32 0,.string ⟨#[]⟩,.int .u8 0,.bool false] 81)) (.cells #[.int .u32 0,.string ⟨#[]⟩,.int .u8 0,.bool false] 81)
 have hh0:=heap_alloc_new w (.cells #[.int .u32 0,.string ⟨#[]⟩,.int .u8 0,.bool false] 81)
 have hh:=heap_alloc_new (w.alloc (.cells #[.int .u32 0,.string ⟨#[]⟩,.int .u8 0,.bool false] 81)) (.cells #[.int .u32 0,.string ⟨#[]⟩,.int .u8 0,.bool false] 81)
 rw [hz0] at hh
 exact ⟨h.kept hbW h.lt,h.lt,(hb1.block w.heap.size (by omega)).trans hh0,hh,Fr.of_below hbW⟩
theorem Mid.call {w W W':World} {p f f':Nat} {b b':List Nat} {x0 x1 x2 x3:Value} (h:Mid w p W b f x0 x1 x2 x3) (hs:St 200 W' p b' f') (hf:Fr p W.heap.size W W'):Mid w p W' b' f' x0 x1 x2 x3:=by
 obtain ⟨h1,h2,h3,h4,h5⟩:=h
 have l3:=(Array.getElem?_eq_some_iff.1 h3).1
 have l4:=(Array.getElem?_eq_some_iff.1 h4).1
 exact ⟨hs,h2,(hf.block _ l3 (by omega)).trans h3,(hf.block _ l4 (by omega)).trans h4,h5.trans (hf.mono (by omega))⟩
theorem Mid.facts {w W:World} {p f:Nat} {b:List Nat} {x0 x1 x2 x3:Value} (h:Mid w p W b f x0 x1 x2 x3) :
  (W.cell? ⟨w.heap.size+1,0,none⟩=some x0/\W.cell? ⟨w.heap.size+1,1,none⟩=some x1/\W.cell? ⟨w.heap.size+1,2,none⟩=some x2/\W.cell? ⟨w.heap.size+1,3,none⟩=some x3) /\
  (W.frozen? ⟨w.heap.size+1,0,none⟩=false/\W.frozen? ⟨w.heap.size+1,1,none⟩=false/\W.frozen? ⟨w.heap.size+1,2,none⟩=false/\W.frozen? ⟨w.heap.size+1,3,none⟩=false) /\
  (W.cell? ⟨w.heap.size,0,none⟩=some (.int .u32 0)/\W.cell? ⟨w.heap.size,1,none⟩=some (.string ⟨#[]⟩)/\W.cell? ⟨w.heap.size,2,none⟩=some (.int .u8 0)/\W.cell? ⟨w.heap.size,3,none⟩=some (.bool false)) /\
  (W.frozen? ⟨w.heap.size,0,none⟩=false/\W.frozen? ⟨w.heap.size,1,none⟩=false/\W.frozen? ⟨w.heap.size,2,none⟩=false/\W.frozen? ⟨w.heap.size,3,none⟩=false):=by
 obtain ⟨h1,h2,h3,h4,h5⟩:=h
 refine ⟨⟨?_,?_,?_,?_⟩,⟨?_,?_,?_,?_⟩,⟨?_,?_,?_,?_⟩,⟨?_,?_,?_,?_⟩⟩<;>first | (rw [cell_block h4];rfl) | (rw [cell_block h3];rfl) | (simp [World.frozen?,h4];done) | (simp [World.frozen?,h3];done)
theorem Mid.keep {w W:World} {p f:Nat} {b:List Nat} {x0 x1 x2 x3:Value} (h:Mid w p W b f x0 x1 x2 x3) (j:Nat) (v:Value) :
  St 200 (W.setCell ⟨w.heap.size+1,j,none⟩ v) p b f/\(W.setCell ⟨w.heap.size+1,j,none⟩ v).heap[w.heap.size]?=some (.cells #[.int .u32 0,.string ⟨#[]⟩,.int .u8 0,.bool false] 81 (0,0))/\Fr p w.heap.size w (W.setCell ⟨w.heap.size+1,j,none⟩ v):=by
 obtain ⟨h1,h2,h3,h4,h5⟩:=h
 have hb:Below (w.heap.size+1) W (W.setCell ⟨w.heap.size+1,j,none⟩ v):=(Below.refl (w.heap.size+1) W).setCell (show w.heap.size+1<=w.heap.size+1 from Nat.le_refl _) _
 exact ⟨h1.kept hb (by omega),(hb.block _ (by omega)).trans h3,h5.then (hb.mono (by omega))⟩
theorem Mid.set0 {w W:World} {p f:Nat} {b:List Nat} {x0 x1 x2 x3:Value} (h:Mid w p W b f x0 x1 x2 x3) (v:Value):Mid w p (W.setCell ⟨w.heap.size+1,0,none⟩ v) b f v x1 x2 x3 :=
 ⟨(h.keep 0 v).1,h.2.1,(h.keep 0 v).2.1,by rw [heap_set h.2.2.2.1];rfl,(h.keep 0 v).2.2⟩
theorem Mid.set1 {w W:World} {p f:Nat} {b:List Nat} {x0 x1 x2 x3:Value} (h:Mid w p W b f x0 x1 x2 x3) (v:Value):Mid w p (W.setCell ⟨w.heap.size+1,1,none⟩ v) b f x0 v x2 x3 :=
 ⟨(h.keep 1 v).1,h.2.1,(h.keep 1 v).2.1,by rw [heap_set h.2.2.2.1];rfl,(h.keep 1 v).2.2⟩
theorem Mid.set2 {w W:World} {p f:Nat} {b:List Nat} {x0 x1 x2 x3:Value} (h:Mid w p W b f x0 x1 x2 x3) (v:Value):Mid w p (W.setCell ⟨w.heap.size+1,2,none⟩ v) b f x0 x1 v x3 :=
 ⟨(h.keep 2 v).1,h.2.1,(h.keep 2 v).2.1,by rw [heap_set h.2.2.2.1];rfl,(h.keep 2 v).2.2⟩
theorem Mid.set3 {w W:World} {p f:Nat} {b:List Nat} {x0 x1 x2 x3:Value} (h:Mid w p W b f x0 x1 x2 x3) (v:Value):Mid w p (W.setCell ⟨w.heap.size+1,3,none⟩ v) b f x0 x1 x2 v :=
 ⟨(h.keep 3 v).1,h.2.1,(h.keep 3 v).2.1,by rw [heap_set h.2.2.2.1];rfl,(h.keep 3 v).2.2⟩
theorem Mid.done {w W:World} {p f:Nat} {b:List Nat} {x0 x1 x2 x3:Value} (h:Mid w p W b f x0 x1 x2 x3) (y0 y1 y2 y3:Value) :
  St 200 ((((W.setCell ⟨w.heap.size,0,none⟩ y0).setCell ⟨w.heap.size,1,none⟩ y1).setCell ⟨w.heap.size,2,none⟩ y2).setCell ⟨w.heap.size,3,none⟩ y3) p b f /\
  Fr p w.heap.size w ((((W.setCell ⟨w.heap.size,0,none⟩ y0).setCell ⟨w.heap.size,1,none⟩ y1).setCell ⟨w.heap.size,2,none⟩ y2).setCell ⟨w.heap.size,3,none⟩ y3):=by
 obtain ⟨h1,h2,h3,h4,h5⟩:=h
 have hb:Below w.heap.size W ((((W.setCell ⟨w.heap.size,0,none⟩ y0).setCell ⟨w.heap.size,1,none⟩ y1).setCell ⟨w.heap.size,2,none⟩ y2).setCell ⟨w.heap.size,3,none⟩ y3) :=
  have hle:w.heap.size<=w.heap.size:=Nat.le_refl _
  ((((Below.refl w.heap.size W).setCell (p:=⟨w.heap.size,0,none⟩) hle _).setCell (p:=⟨w.heap.size,1,none⟩) hle _).setCell (p:=⟨w.heap.size,2,none⟩) hle _).setCell (p:=⟨w.heap.size,3,none⟩) hle _
 exact ⟨h1.kept hb h2,h5.then hb⟩
theorem rds_fld {b b1 b2 b3 b4:List Nat} {f f1 f2 f3 f4 i k n:Nat} {s:ByteArray} (h1:Rds (numU 4294967295) b f i b1 f1) (h2:Rds (textU 16) b1 f1 s b2 f2) (h3:Rds (numU 255) b2 f2 k b3 f3) (h4:Rds (numU 1) b3 f3 n b4 f4) :
  Rds fldU b f (i,s,k,decide (n=1)) b4 f4 :=
 h1.bind (h2.bind (h3.bind (h4.bind (Rds.pure (i,s,k,decide (n=1)) b4 f4))))
theorem field_any {w:World} {p f:Nat} {b:List Nat} (h:St 200 w p b f) :
  Calls Tryz.prog 179 #[.pointer (some ⟨p,0,none⟩)] w (RdPost 200 fldU aggF (fun x=>Okf x/\x.2.1.size<=16) p b f w):=by
 have HM:=hidden (Mid.begin h)
 have hz0:(w.alloc (.cells #[.int .u32 0,.string ⟨#[]⟩,.int .u8 0,.bool false] 81)).heap.size=w.heap.size+1:=World.size_alloc _ _
 clear h
 generalize hW:(w.alloc (.cells #[.int .u32 0,.string ⟨#[]⟩,.int .u8 0,.bool false] 81)).alloc (.cells #[.int .u32 0,.string ⟨#[]⟩,.int .u8 0,.bool false] 81)=W at *
 go_enter Tryz.func179,Tryz.ntmps179
 go_wp2_with fail
 try rw [hW]
 clear hW hz0
 refine (number_any HM.out.1 4294967295 (by omega)).mono ?_
 rintro e w1 ⟨i,b1,f1,rfl,hi,hs1,hr1,hf1⟩
 have HM1:=hidden (HM.out.call hs1 hf1)
 have HR1:=hidden hr1
 have HI:=hidden hi
 have hi':i<4294967296:=by omega
 obtain ⟨⟨c0,c1,c2,c3⟩,⟨z0,z1,z2,z3⟩,_,_⟩:=HM1.out.facts
 clear hs1 hr1 hf1 hi HM
 go_wp2_with fail
 have HM2:=hidden (HM1.out.set0 (.int .u32 (i:Int)))
 clear HM1 c0 c1 c2 c3 z0 z1 z2 z3
 generalize hX:w1.setCell ⟨w.heap.size+1,0,none⟩ (.int .u32 (i:Int))=X at *
 try rw [hX]
 clear hX
 refine (name_any HM2.out.1).mono ?_
 rintro e w2 ⟨s,b2,f2,rfl,hs,hs2,hr2,hf2⟩
 have HM3:=hidden (HM2.out.call hs2 hf2)
 have HR2:=hidden hr2
 have HS:=hidden hs
 obtain ⟨⟨c0,c1,c2,c3⟩,⟨z0,z1,z2,z3⟩,_,_⟩:=HM3.out.facts
 clear hs2 hr2 hf2 hs HM2
 go_wp2_with fail
 have HM4:=hidden (HM3.out.set1 (.string s))
 clear HM3 c0 c1 c2 c3 z0 z1 z2 z3
 generalize hX:w2.setCell ⟨w.heap.size+1,1,none⟩ (.string s)=Y at *
 try rw [hX]
 clear hX
 refine (number_any HM4.out.1 255 (by omega)).mono ?_
 rintro e w3 ⟨k,b3,f3,rfl,hk,hs3,hr3,hf3⟩
 have HM5:=hidden (HM4.out.call hs3 hf3)
 have HR3:=hidden hr3
 have HK:=hidden hk
 have hk':k<256:=by omega
 obtain ⟨⟨c0,c1,c2,c3⟩,⟨z0,z1,z2,z3⟩,_,_⟩:=HM5.out.facts
 clear hs3 hr3 hf3 hk HM4
 go_wp2_with fail
 have HM6:=hidden (HM5.out.set2 (.int .u8 (k:Int)))
 clear HM5 c0 c1 c2 c3 z0 z1 z2 z3
 generalize hX:w3.setCell ⟨w.heap.size+1,2,none⟩ (.int .u8 (k:Int))=Z at *
 try rw [hX]
 clear hX
 refine (number_any HM6.out.1 1 (by omega)).mono ?_
 rintro e w4 ⟨n,b4,f4,rfl,hn,hs4,hr4,hf4⟩
 have HM7:=hidden (HM6.out.call hs4 hf4)
 have HRF:=hidden (rds_fld HR1.out HR2.out HR3.out hr4)
 obtain ⟨⟨c0,c1,c2,c3⟩,⟨z0,z1,z2,z3⟩,⟨y0,y1,y2,y3⟩,⟨u0,u1,u2,u3⟩⟩:=HM7.out.facts
 clear hs4 hr4 hf4 hn HM6
 have hq:((n:Int)==1)=decide (n=1):=by
  by_cases h:n=1
  ·subst h;rfl
  ·rw [decide_eq_false h];exact beq_eq_false_iff_ne.2 (by omega)
 have HQ:=hidden hq
 clear hq
 go_wp2_with fail
 rw [HQ.out]
 obtain ⟨d1,d2⟩:=(HM7.out.set3 (.bool (decide (n=1)))).done (.int .u32 (i:Int)) (.string s) (.int .u8 (k:Int)) (.bool (decide (n=1)))
 refine bodyPost_ret (v:=aggF (i,s,k,decide (n=1))) (by simp [results,Tryz.results179,go_sem,aggF,y0,y1,y2,y3]) rfl ?_
 exact ⟨_,_,_,rfl,⟨⟨by have:=HI.out;show i<4294967296;omega,by have:=HK.out;show k<256;omega⟩,HS.out⟩,d1,HRF.out,d2⟩
end Go.Proofs.YtpljdjmpamjkhaaGreatDoor
