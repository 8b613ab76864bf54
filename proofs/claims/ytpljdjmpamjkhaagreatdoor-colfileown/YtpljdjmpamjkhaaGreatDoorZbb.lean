/- Which errors the reading of numbers may tell; what a reading has to keep: no program. The reader of layer column: lengthsAndBytes. The reader of layer column: textsByPlaces, texts. -/
import Derived.Test.YtpljdjmpamjkhaaGreatDoorZba
set_option linter.unusedVariables false
set_option linter.unusedSimpArgs false
namespace Go.Proofs.YtpljdjmpamjkhaaGreatDoor
open Go.Lib
def Er (f:Nat):Prop:=f=0∨f=30∨f=31∨f=32∨f=40∨f=50
theorem Er.orf {f e:Nat} (h:Er f) (h2:Er e):Er (orf f e):=by
 unfold YtpljdjmpamjkhaaGreatDoor.orf
 split
 ·exact h2
 ·exact h
theorem orf_eq_zero {f e:Nat} (h:orf f e=0):f=0/\e=0:=by
 unfold orf at h
 split at h
 ·next h1=>exact ⟨h1,h⟩
 ·next h1=>exact absurd h h1
def Es {α : Type} (d:List Nat->Except Nat (α×List Nat)):Prop:=∀ b e,d b=.error e->Er e
theorem Es.bind {α β : Type} {d:List Nat->Except Nat (α×List Nat)} {f:α->List Nat->Except Nat (β×List Nat)} (h1:Es d) (h2:∀ x,Es (f x)):Es (bindR d f):=by
 intro b e h
 unfold bindR at h
 split at h
 ·next x r _=>exact h2 x r e h
 ·next e' he =>
  cases h
  exact h1 b _ he
theorem Es.ok {α : Type} {x:List Nat->α×List Nat}:Es (fun r=>(.ok (x r):Except Nat (α×List Nat))):=fun b e h=>by cases h
theorem Es.err {α : Type} {e:Nat} (h:Er e):Es (fun _=>(.error e:Except Nat (α×List Nat))):=fun b e' h'=>by cases h';exact h
theorem Es.ite {α : Type} {c:Prop} [Decidable c] {d1 d2:List Nat->Except Nat (α×List Nat)} (h1:Es d1) (h2:¬ c->Es d2):Es (if c then d1 else d2):=by
 split
 ·exact h1
 ·next h=>exact h2 h
theorem gt_er (b:List Nat):Er (gt b).2.2:=by
 obtain ⟨_,_,_,h | ⟨h | h,_⟩⟩:=gt_form b
 ·exact Or.inl h
 ·exact Or.inr (Or.inl h)
 ·exact Or.inr (Or.inr (Or.inl h))
theorem wh_es:Es wh:=fun b e h=>by
 unfold wh at h
 split at h
 ·cases h
 ·cases h
  exact gt_er b
theorem num_es:Es num:=fun b e h=>by
 unfold num at h
 split at h
 ·cases h
 ·cases h
  exact gt_er b
theorem unE_er {b:List Nat} {n w:Nat} (hn:n<=256) (hw:w<=64):Er (unE b n w):=by
 unfold unE
 rw [if_pos (by omega)]
 split
 ·exact Or.inl rfl
 ·exact Or.inr (Or.inr (Or.inr (Or.inr (Or.inl rfl))))
theorem pkd_es {n w:Nat} (hn:n<=256) (hw:w<=64):Es (pkd n w):=fun b e h=>by
 unfold pkd at h
 split at h
 ·cases h
  exact Or.inr (Or.inl rfl)
 ·split at h
  ·cases h
   exact Or.inr (Or.inr (Or.inr (Or.inl rfl)))
  ·split at h
   ·cases h
   ·cases h
    exact unE_er hn hw
theorem er40:Er 40:=Or.inr (Or.inr (Or.inr (Or.inr (Or.inl rfl))))
theorem er32:Er 32:=Or.inr (Or.inr (Or.inr (Or.inl rfl)))
theorem er30:Er 30:=Or.inr (Or.inl rfl)
theorem er50:Er 50:=Or.inr (Or.inr (Or.inr (Or.inr (Or.inr rfl))))
theorem er0:Er 0:=Or.inl rfl
theorem rd0_es:∀ n,Es (rd0 n)
 | 0=>fun b e h=>by cases h
 | n+1=>by
  have:=(wh_es).bind (f:=fun x=>bindR (rd0 n) (fun l r=>.ok (x::l,r))) (fun x=>(rd0_es n).bind (fun l=>Es.ok))
  exact this
theorem rd1_es:∀ n last,Es (rd1 n last)
 | 0,_=>fun b e h=>by cases h
 | n+1,last=>by
  have:=(wh_es).bind (f:=fun d=>bindR (rd1 n (w64 (last+d))) (fun l r=>.ok (w64 (last+d)::l,r))) (fun d=>(rd1_es n _).bind (fun l=>Es.ok))
  exact this
theorem rd2_es:∀ f n,Es (rd2 f n)
 | 0,_=>fun b e h=>by cases h
 | f+1,n=>fun b e h=>by
  unfold rd2 at h
  split at h
  ·cases h
  ·exact (wh_es.bind (fun x=>num_es.bind (fun k=>Es.ite (Es.err er40) (fun _=>(rd2_es f (n-k)).bind (fun l=>Es.ok))))) b e h
theorem rdU_es:∀ m last,Es (rdU m last)
 | 0,_=>fun b e h=>by cases h
 | m+1,last=>fun b e h=>by
  unfold rdU at h
  exact (num_es.bind (fun d=>Es.ite (Es.err er40) (fun _=>(rdU_es m _).bind (fun l=>Es.ok)))) b e h
theorem rd3_es {n:Nat} (hn:n<=256):Es (rd3 n):=fun b e h=>by
 unfold rd3 at h
 refine (num_es.bind (fun many=>Es.ite (Es.err er40) (fun hm=>Es.ite Es.ok (fun h0=>wh_es.bind (fun x=>(rdU_es _ x).bind (fun u=>(pkd_es hn ?_).bind (fun p r e he=>?_))))))) b e h
 ·rw [blen_le]
  have:many-1<2 ^ 64:=by
   have:(2:Nat) ^ 64=18446744073709551616:=by decide
   omega
  exact this
 ·unfold picked at he
  split at he
  ·cases he
  ·cases he
   exact er40
theorem rd4_es {n:Nat} (hn:n<=256):Es (rd4 n):=fun b e h=>by
 unfold rd4 at h
 split at h
 ·cases h
 ·exact (wh_es.bind (fun x=>num_es.bind (fun w=>Es.ite (Es.err er40) (fun hw=>(pkd_es hn (by omega)).bind (fun p=>Es.ok))))) b e h
theorem rdC_es {c n:Nat} (hn:n<=256):Es (rdC c n):=by
 unfold rdC
 split
 ·exact rd0_es n
 ·exact rd1_es n 0
 ·exact rd2_es n n
 ·exact rd3_es hn
 ·exact rd4_es hn
theorem readM_er {b:List Nat} {n:Nat} (hn:n<=256):Er (readM b n).2:=by
 unfold readM
 rw [if_pos (by omega)]
 split
 ·exact er30
 ·next c t =>
  split
  ·exact er50
  ·split
   ·exact er0
   ·next e he =>
    unfold rdAll at he
    split at he
    ·next e' he' =>
     cases he
     exact rdC_es (by omega) _ _ he'
    ·split at he
     ·split at he
      ·cases he
      ·cases he
       exact er40
     ·cases he
      exact er32
theorem readM_safe {b:List Nat} {n:Nat} (hb:Bs b) (hn:n<=256):Is (readM b n).1/\(readM b n).1.length<=n:=by
 by_cases h:(readM b n).2=0
 ·obtain ⟨h1,h2⟩:=readM_len hb h
  exact ⟨h2,by omega⟩
 ·have:(readM b n).1=[]:=by
   unfold readM at h ⊢
   rw [if_pos (by omega)] at h ⊢
   split
   ·rfl
   ·next c t =>
    split
    ·rfl
    ·next h4 =>
     simp only [if_neg h4] at h
     split
     ·next l hl =>
      rw [hl] at h
      exact absurd rfl h
     ·rfl
  rw [this]
  exact ⟨fun x hx=>by simp at hx,by simp⟩
def RP {α : Type} (Ok:α->Prop) (G:α->List Nat->Prop) (f:Nat) (x:α) (b':List Nat) (f':Nat):Prop :=
 Er f'/\(f'=0->f=0/\Ok x)/\∀ y r,f=0->Ok y->G y r->f'=0/\x=y/\b'=r
def Ni (n:Nat) (l:List Int):Prop:=l.length=n/\Is l
def Nt (n:Nat) (l:List (List Nat)):Prop:=l.length=n/\Ts l
theorem tk_left {a r:List Nat} (f:Nat):tkB a.length (a++r)=a/\tkR a.length (a++r)=r/\tkF a.length (a++r) f=f:=by
 have h:¬ (a++r).length<a.length:=by rw [List.length_append];omega
 refine ⟨?_,?_,?_⟩
 ·unfold tkB;rw [if_neg h,List.take_left]
 ·unfold tkR;rw [if_neg h,List.drop_left]
 ·unfold tkF;rw [if_neg h]
theorem tkF_er {c:Nat} {b:List Nat} {f:Nat} (h:Er f):Er (tkF c b f):=by
 unfold tkF
 split
 ·exact h.orf er30
 ·exact h
theorem tkF_zero {c:Nat} {b:List Nat} {f:Nat} (h:tkF c b f=0):f=0/\¬ b.length<c:=by
 unfold tkF at h
 split at h
 ·have:=(orf_eq_zero h).2
  omega
 ·next h1=>exact ⟨h,h1⟩
theorem counted_rp {b:List Nat} {f n:Nat} (hb:Bs b) (hn:n<=256) (hf:Er f) :
  RP (Ni n) (fun l r=>b=cnt l++r) f (readM (tkB (gt b).1 (b.drop (gt b).2.1)) n).1 (tkR (gt b).1 (b.drop (gt b).2.1)) (orf (tkF (gt b).1 (b.drop (gt b).2.1) (orf f (gt b).2.2)) (readM (tkB (gt b).1 (b.drop (gt b).2.1)) n).2):=by
 refine ⟨(tkF_er (hf.orf (gt_er b))).orf (readM_er hn),fun h=>?_,fun l r h0 hl hg=>?_⟩
 ·obtain ⟨h1,h2⟩:=orf_eq_zero h
  obtain ⟨h3,h4⟩:=readM_len (tkB_bs (hb.drop _)) h2
  exact ⟨(orf_eq_zero (tkF_zero h1).1).1,by omega,h4⟩
 ·obtain ⟨hl1,hl2⟩:=hl
  have hs:=(bstC_size hl2 (by omega)).1
  have hgt:gt b=((bstC l).length,(uv (bstC l).length).length,0):=by
   rw [hg]
   unfold cnt
   rw [List.append_assoc]
   exact gt_put _ (by omega) _
  have hd:b.drop (uv (bstC l).length).length=bstC l++r:=by
   rw [hg]
   unfold cnt
   rw [List.append_assoc,List.drop_left]
  have hbk:=bstC_back hl2 (by omega)
  rw [hl1] at hbk
  rw [hgt]
  simp only
  rw [hd,(tk_left (a:=bstC l) (r:=r) 0).1,(tk_left (a:=bstC l) (r:=r) 0).2.1,(tk_left (a:=bstC l) (r:=r) (orf f 0)).2.2,hbk,h0]
  exact ⟨rfl,rfl,rfl⟩
end Go.Proofs.YtpljdjmpamjkhaaGreatDoor
set_option linter.unusedVariables false
set_option linter.unusedSimpArgs false
set_option maxRecDepth 100000
set_option maxHeartbeats 4000000
namespace Go.Proofs.YtpljdjmpamjkhaaGreatDoor
open Go.RowKit Go.Lib
theorem Sv.keptFr {W W':World} {p B:Nat} {v:Value} {xs:List Value} (h:Sv W v xs) (hv:∀ k,v.ownBlock=some k->k<B/\k≠p) (hf:Fr p B W W'):Sv W' v xs:=by
 obtain ⟨a,cap,rfl,h1,h2,h3,h4⟩:=h
 refine ⟨a,cap,rfl,h1,h2,h3,fun h0=>?_⟩
 obtain ⟨b,off,rfl,h5,h6⟩:=h4 h0
 have hb:=hv b rfl
 exact ⟨b,off,rfl,Nat.lt_of_lt_of_le h5 hf.size,fun j x hj=>(World.cell?_of_block (w:=W) (a:=⟨b,off+j,none⟩) (hf.block b hb.1 hb.2)).trans (h6 j x hj)⟩
def LI (sz:List Int) (b1:List Nat) (f1 j:Nat) (l:List (List Nat)) (bj:List Nat) (fj:Nat):Prop :=
 l.length=j/\Ts l/\Er fj/\(fj=0->f1=0)/\∀ y r,f1=0->Ts y->sizes y=sz->b1=y.flatten++r->fj=0/\l=y.take j/\bj=(y.drop j).flatten++r
theorem LI.start {sz:List Int} {b1:List Nat} {f1:Nat} (hf:Er f1):LI sz b1 f1 0 [] b1 f1 :=
 ⟨rfl,fun s hs=>by simp at hs,hf,fun h=>h,fun y r h1 _ _ h4=>⟨h1,by simp,by simpa using h4⟩⟩
theorem tkB_len {c:Nat} {b:List Nat}:(tkB c b).length<=c:=by
 unfold tkB
 split
 ·simp
 ·rw [List.length_take];omega
theorem LI.step {sz:List Int} {b1:List Nat} {f1 j:Nat} {l:List (List Nat)} {bj:List Nat} {fj:Nat} (h:LI sz b1 f1 j l bj fj) (hb:Bs bj) (hj:j<sz.length) (h0:0<=sz[j]) (h64:sz[j]<=64) :
  LI sz b1 f1 (j+1) (l++[tkB sz[j].toNat bj]) (tkR sz[j].toNat bj) (tkF sz[j].toNat bj fj):=by
 obtain ⟨h1,h2,h3,h4,h5⟩:=h
 have hl:=tkB_len (c:=sz[j].toNat) (b:=bj)
 refine ⟨by simp [h1],fun s hs=>?_,tkF_er h3,fun h=>h4 (tkF_zero h).1,fun y r a1 a2 a3 a4=>?_⟩
 ·rcases List.mem_append.1 hs with hs | hs
  ·exact h2 s hs
  ·have:s=tkB sz[j].toNat bj:=by simpa using hs
   subst this
   exact ⟨by omega,tkB_bs hb⟩
 ·obtain ⟨c1,c2,c3⟩:=h5 y r a1 a2 a3 a4
  have hy:j<y.length:=by rw [← a3,sizes_length] at hj;exact hj
  have hz:sz[j]=(y[j].length:Int):=by
   have:(sizes y)[j]?=some (y[j].length:Int):=by simp [sizes,hy]
   rw [a3,List.getElem?_eq_getElem hj] at this
   exact Option.some.inj this
  have hd:y.drop j=y[j]::y.drop (j+1):=List.drop_eq_getElem_cons hy
  rw [hd,List.flatten_cons,List.append_assoc] at c3
  rw [hz,Int.toNat_natCast,c3,(tk_left (a:=y[j]) fj).1,(tk_left (a:=y[j]) fj).2.1,(tk_left (a:=y[j]) fj).2.2,c2,List.take_succ_eq_append_getElem hy]
  exact ⟨c1,rfl,rfl⟩
theorem LI.bad {sz:List Int} {b b1 bz:List Nat} {f f1 j n:Nat} {l:List (List Nat)} {bj:List Nat} {fj:Nat} (hc:RP (Ni n) (fun l r=>b=cnt l++r) f sz b1 f1) (h:LI sz b1 f1 j l bj fj) (hj:j<sz.length) (hw:sz[j]<0∨64<sz[j]) :
  RP (Nt n) (fun l r=>b=txts l++r) f [] bz (orf fj 40):=by
 obtain ⟨h1,h2,h3,h4,h5⟩:=h
 refine ⟨h3.orf er40,fun h=>absurd (orf_eq_zero h).2 (by omega),fun y r a1 a2 a3=>?_⟩
 obtain ⟨d1,d2,d3⟩:=hc.2.2 (sizes y) (y.flatten++r) a1 ⟨by rw [sizes_length];exact a2.1,sizes_i64 a2.2⟩ (by rw [a3];unfold txts;rw [List.append_assoc])
 have hy:j<y.length:=by rw [d2,sizes_length] at hj;exact hj
 have hz:sz[j]=(y[j].length:Int):=by
  have:(sizes y)[j]?=some (y[j].length:Int):=by simp [sizes,hy]
  rw [← d2,List.getElem?_eq_getElem hj] at this
  exact Option.some.inj this
 have:=(a2.2 _ (List.getElem_mem hy)).1
 omega
theorem LI.done {sz:List Int} {b b1:List Nat} {f f1 n:Nat} {l:List (List Nat)} {bj:List Nat} {fj:Nat} (hc:RP (Ni n) (fun l r=>b=cnt l++r) f sz b1 f1) (h:LI sz b1 f1 sz.length l bj fj) :
  RP (Nt n) (fun l r=>b=txts l++r) f l bj fj:=by
 obtain ⟨h1,h2,h3,h4,h5⟩:=h
 refine ⟨h3,fun h=>?_,fun y r a1 a2 a3=>?_⟩
 ·obtain ⟨e1,e2⟩:=hc.2.1 (h4 h)
  exact ⟨e1,by rw [h1];exact e2.1,h2⟩
 ·obtain ⟨d1,d2,d3⟩:=hc.2.2 (sizes y) (y.flatten++r) a1 ⟨by rw [sizes_length];exact a2.1,sizes_i64 a2.2⟩ (by rw [a3];unfold txts;rw [List.append_assoc])
  obtain ⟨c1,c2,c3⟩:=h5 y r d1 a2.2 d2.symm d3
  have hyl:sz.length=y.length:=by rw [d2,sizes_length]
  rw [hyl] at c2 c3
  rw [List.take_length] at c2
  rw [List.drop_length] at c3
  exact ⟨c1,c2,by simpa using c3⟩
def TPost (n:Nat) (G:List (List Nat)->List Nat->Prop) (p f:Nat) (w:World) (r:Ending) (w':World):Prop :=
 ∃ l b' f',(∃ v,r=.returned v/\OwnS w' w.heap.size v l)/\Ts l/\l.length<=n/\Rs w' p b' f'/\RP (Nt n) G f l b' f'/\Fr p w.heap.size w w'
theorem lens_any {w:World} {p f:Nat} {b:List Nat} (h:Rs w p b f) (hf:Er f) (n:Nat) (hn:n<=256) :
  Calls Tryz.prog 298 #[.pointer (some ⟨p,0,none⟩),.int .i64 (n:Int)] w (TPost n (fun l r=>b=txts l++r) p f w):=by
 have hlt:=h.lt
 have HCN:=hidden (countedNumbers_any h n)
 have HRP:=hidden (counted_rp h.bs hn hf)
 have HSF:=hidden (readM_safe (tkB_bs (c:=(gt b).1) (h.bs.drop (gt b).2.1)) hn)
 clear h
 generalize (readM (tkB (gt b).1 (b.drop (gt b).2.1)) n).1=sz at *
 generalize (orf (tkF (gt b).1 (b.drop (gt b).2.1) (orf f (gt b).2.2)) (readM (tkB (gt b).1 (b.drop (gt b).2.1)) n).2)=f1 at *
 generalize tkR (gt b).1 (b.drop (gt b).2.1)=b1 at *
 have hszl:=HSF.out.2
 go_enter Tryz.func298,Tryz.ntmps298
 go_wp2_with fail
 refine HCN.out.mono ?_
 rintro e w1 ⟨⟨v1,rfl,ho1⟩,hs1,hf1⟩
 have HS1:=hidden hs1
 have HF1:=hidden hf1
 have hz1:=hf1.size
 have HV1:=hidden ho1.sv
 have HVB:Hid (∀ k,v1.ownBlock=some k->k<w1.heap.size/\k≠p):=hidden (fun k hk=>by
  have:=ho1.lt k hk
  exact ⟨this.2,by omega⟩)
 obtain ⟨a1,c1,rfl,hc1,hcm1⟩:=own_slice ho1
 have hcm1':c1<=9223372036854775807:=by unfold maxLen at hcm1;omega
 clear hs1 hf1 ho1 hcm1
 go_wp2_with fail
 go_loopw [5,12] (fun o i wr=>∃ (j:Nat) (l:List (List Nat)) (bj:List Nat) (fj:Nat),j<=sz.length/\i=.int .i64 (j:Int)/\OwnS wr w1.heap.size o l/\LI sz b1 f1 j l bj fj/\Rs wr p bj fj/\Fr p w1.heap.size w1 wr) (fun _ i _=>sz.length-(intOf i).toNat)
 case atStart=>exact ⟨0,[],b1,f1,by omega,rfl,OwnS.nil _ _,LI.start HRP.out.1,HS1.out,Fr.refl _ _ _⟩
 case round =>
  obtain ⟨j,l,bj,fj,hj,rfl,hown,hli,hsj,hfj⟩:=hrel
  have HO:=hidden hown
  have HLI:=hidden hli
  have HSJ:=hidden hsj
  have HFJ:=hidden hfj
  have hzr:=hfj.size
  have hll:l.length=j:=hli.1
  clear hown hli hsj hfj
  by_cases hjl:j<sz.length
  ·obtain ⟨g,off,rfl,hg,hcell⟩:=(HV1.out.keptFr HVB.out HFJ.out).at hjl
   have HST:=hidden (HLI.out.step HSJ.out.bs hjl)
   have HBAD:=hidden (fun bz hw=>HLI.out.bad (bz:=bz) HRP.out hjl hw)
   have hjl':(j:Int)<(sz.length:Int):=by omega
   generalize sz[j]=z at *
   by_cases hz0:z<0
   ·go_wp2_with fail
    refine (crefuse_any HSJ.out 40).mono ?_
    rintro e w3 ⟨rfl,hs3,hf3⟩
    have HS3:=hidden hs3
    have HF3:=hidden (HF1.out.trans ((HFJ.out.trans (hf3.mono hzr)).mono hz1))
    clear hs3 hf3
    go_wp2_with fail
    go_ret
    exact ⟨[],_,_,⟨_,rfl,OwnS.nil _ _⟩,fun s hs=>by simp at hs,by simp,HS3.out,HBAD.out _ (Or.inl hz0),HF3.out⟩
   ·by_cases hz64:z > 64
    ·go_wp2_with fail
     refine (crefuse_any HSJ.out 40).mono ?_
     rintro e w3 ⟨rfl,hs3,hf3⟩
     have HS3:=hidden hs3
     have HF3:=hidden (HF1.out.trans ((HFJ.out.trans (hf3.mono hzr)).mono hz1))
     clear hs3 hf3
     go_wp2_with fail
     go_ret
     exact ⟨[],_,_,⟨_,rfl,OwnS.nil _ _⟩,fun s hs=>by simp at hs,by simp,HS3.out,HBAD.out _ (Or.inr (by omega)),HF3.out⟩
    ·obtain ⟨zn,rfl⟩:∃ zn:Nat,z=(zn:Int):=⟨z.toNat,by omega⟩
     have HST':=hidden (HST.out (by omega) (by omega))
     rw [Int.toNat_natCast] at HST'
     have HTK:=hidden (ctake_any HSJ.out zn (by omega))
     have HTB:=hidden (tkB_bs (c:=zn) HSJ.out.bs)
     clear HST HBAD
     generalize tkB zn bj=tb at *
     generalize tkR zn bj=tr at *
     generalize tkF zn bj fj=tf at *
     go_wp2_with fail
     refine HTK.out.mono ?_
     rintro e w3 ⟨⟨v3,rfl,hv3⟩,hs3,hf3⟩
     have hcv:=hv3.conv HTB.out
     have HS3:=hidden hs3
     have HF3:=hidden (HFJ.out.trans (hf3.mono hzr))
     have hz3:=hf3.size
     have HO3:Hid (OwnS w3 w1.heap.size _ l):=hidden (hf3.own HO.out (by omega))
     clear hs3 hf3 hv3
     unfold txt at hcv
     have hlen':l.length<=100000:=by omega
     go_wp2_with (first | (at_builtin;refine wpList_append_s rfl _ _ rfl w1.heap.size _ _ tb l rfl (HO3.out.kept (below_one _ _)) rfl (cell_new _ _ _) hlen' ?c2 ?_))
     case c2=>first | omega | (rw [World.size_alloc];omega)
     intro v' w4 o4 b4
     have HO4:=hidden o4
     have hb4:=((below_one w3 (.cells #[txt tb] 9)).mono (show w1.heap.size<=w3.heap.size by omega)).trans b4
     have HS4:=hidden (HS3.out.kept hb4 (by omega))
     have HF4:=hidden (HF3.out.then hb4)
     clear o4 b4 hb4
     go_wp2_with fail
     go_roundw
     case rel=>exact ⟨j+1,l++[tb],tr,tf,by omega,by go_num,HO4.out,HST'.out,HS4.out,HF4.out⟩
     case measure=>simp [intOf];omega
  ·have:j=sz.length:=by omega
   subst this
   have HDN:=hidden (HLI.out.done HRP.out)
   have HTS:=hidden HLI.out.2.1
   have hge:¬ ((sz.length:Nat):Int)<(sz.length:Int):=by omega
   have HFA:=hidden (HF1.out.trans (HFJ.out.mono hz1))
   go_wp2_with fail
   go_ret
   exact ⟨l,bj,fj,⟨_,rfl,own_low HO.out hz1⟩,HTS.out,by omega,HSJ.out,HDN.out,HFA.out⟩
end Go.Proofs.YtpljdjmpamjkhaaGreatDoor
set_option linter.unusedVariables false
set_option linter.unusedSimpArgs false
set_option maxRecDepth 100000
set_option maxHeartbeats 4000000
namespace Go.Proofs.YtpljdjmpamjkhaaGreatDoor
open Go.RowKit Go.Lib
def byP (b:List Nat) (l:List (List Nat)) (r:List Nat):Prop:=b=uv (tuq l).length++(txts (tuq l)++bstC (placesT l))/\r=[]
theorem byP_form {b r:List Nat} {y:List (List Nat)} {n:Nat} (hn:n<=256) (hy:Nt n y) (hg:byP b y r):gt b=((tuq y).length,(uv (tuq y).length).length,0)/\b.drop (uv (tuq y).length).length=txts (tuq y)++bstC (placesT y)/\(tuq y).length<=n:=by
 have hl:=tuq_length y
 have h1:=hy.1
 refine ⟨?_,?_,by omega⟩
 ·rw [hg.1]
  exact gt_put _ (by omega) _
 ·rw [hg.1,List.drop_left]
theorem byP_many {b bz:List Nat} {f n:Nat} (hn:n<=256) (hf:Er f) (h:n<(gt b).1):RP (Nt n) (byP b) f [] bz (orf (orf f (gt b).2.2) 40):=by
 refine ⟨(hf.orf (gt_er b)).orf er40,fun h=>absurd (orf_eq_zero h).2 (by omega),fun y r a1 a2 a3=>?_⟩
 obtain ⟨h1,h2,h3⟩:=byP_form hn a2 a3
 rw [h1] at h
 exact absurd h (by simp only;omega)
theorem byP_read {b:List Nat} {f n:Nat} {u:List (List Nat)} {b2:List Nat} {f2:Nat} (hn:n<=256) (hc:RP (Nt (gt b).1) (fun l r=>b.drop (gt b).2.1=txts l++r) (orf f (gt b).2.2) u b2 f2) {y:List (List Nat)} {r:List Nat} (h0:f=0) (hy:Nt n y) (hg:byP b y r) :
  f2=0/\u=tuq y/\readM b2 n=(placesT y,0):=by
 obtain ⟨h1,h2,h3⟩:=byP_form hn hy hg
 rw [h1] at hc
 simp only at hc
 rw [h2,h0] at hc
 obtain ⟨d1,d2,d3⟩:=hc.2.2 (tuq y) (bstC (placesT y)) rfl ⟨rfl,tuq_ts hy.2⟩ rfl
 have hb:=bstC_back (placesT_i64 (l:=y) (by have:=hy.1;omega)) (by rw [placesT_length];have:=hy.1;omega)
 rw [placesT_length,hy.1] at hb
 exact ⟨d1,d2,by rw [d3];exact hb⟩
theorem byP_bad {b bz:List Nat} {f n j:Nat} {u:List (List Nat)} {b2:List Nat} {f2:Nat} (hn:n<=256) (hc:RP (Nt (gt b).1) (fun l r=>b.drop (gt b).2.1=txts l++r) (orf f (gt b).2.2) u b2 f2)
  (hj:j<(readM b2 n).1.length) (hw:(readM b2 n).1[j]<0∨(u.length:Int)<=(readM b2 n).1[j]):RP (Nt n) (byP b) f [] bz (orf (orf f2 (readM b2 n).2) 40):=by
 refine ⟨(hc.1.orf (readM_er hn)).orf er40,fun h=>absurd (orf_eq_zero h).2 (by omega),fun y r a1 a2 a3=>?_⟩
 obtain ⟨h1,h2,h3⟩:=byP_read hn hc a1 a2 a3
 have hm:∀ q∈(readM b2 n).1,q∈placesT y:=fun q hq=>by
  rw [h3] at hq
  exact hq
 have:=placesT_lt _ (hm _ (List.getElem_mem hj))
 rw [← h2] at this
 omega
theorem byP_done {b:List Nat} {f n:Nat} {u:List (List Nat)} {b2:List Nat} {f2:Nat} (hn:n<=256) (hb2:Bs b2) (hu:Ts u) (hc:RP (Nt (gt b).1) (fun l r=>b.drop (gt b).2.1=txts l++r) (orf f (gt b).2.2) u b2 f2)
  (hall:∀ q∈(readM b2 n).1,0<=q/\q<(u.length:Int)):RP (Nt n) (byP b) f ((readM b2 n).1.map fun q=>u.getD q.toNat []) [] (orf f2 (readM b2 n).2):=by
 refine ⟨hc.1.orf (readM_er hn),fun h=>?_,fun y r a1 a2 a3=>?_⟩
 ·obtain ⟨h1,h2⟩:=orf_eq_zero h
  obtain ⟨h3,h4⟩:=hc.2.1 h1
  obtain ⟨h5,h6⟩:=readM_len hb2 h2
  refine ⟨(orf_eq_zero h3).1,by rw [List.length_map];omega,fun s hs=>?_⟩
  obtain ⟨q,hq,rfl⟩:=List.mem_map.1 hs
  have hq2:=hall q hq
  have hlt:q.toNat<u.length:=by omega
  rw [List.getD_eq_getElem?_getD,List.getElem?_eq_getElem hlt]
  exact hu _ (List.getElem_mem hlt)
 ·obtain ⟨h1,h2,h3⟩:=byP_read hn hc a1 a2 a3
  rw [h3,h1,h2]
  exact ⟨rfl,placesT_back y,a3.2.symm⟩
theorem getD_ts {u:List (List Nat)} (hu:Ts u) (q:Nat):(u.getD q []).length<=64/\Bs (u.getD q []):=by
 rcases Nat.lt_or_ge q u.length with h | h
 ·rw [List.getD_eq_getElem?_getD,List.getElem?_eq_getElem h]
  exact hu _ (List.getElem_mem h)
 ·rw [List.getD_eq_getElem?_getD,List.getElem?_eq_none h]
  exact ⟨by simp,fun x hx=>by simp at hx⟩
theorem textsByPlaces_any {w:World} {p f:Nat} {b:List Nat} (h:Rs w p b f) (hf:Er f) (n:Nat) (hn:n<=256) :
  Calls Tryz.prog 297 #[.pointer (some ⟨p,0,none⟩),.int .i64 (n:Int)] w (TPost n (byP b) p f w):=by
 have hlt:=h.lt
 have HN:=hidden (cnumber_any h)
 have g1:=(gt_form b).1
 have HMANY:=hidden (fun bz h=>byP_many (b:=b) (bz:=bz) (f:=f) hn hf h)
 have HBAD:=hidden (fun bz j u b2 f2 hc hj hw=>byP_bad (b:=b) (bz:=bz) (f:=f) (j:=j) (u:=u) (b2:=b2) (f2:=f2) hn hc hj hw)
 have HDONE:=hidden (fun u b2 f2 hb2 hu hc hall=>byP_done (b:=b) (f:=f) (u:=u) (b2:=b2) (f2:=f2) hn hb2 hu hc hall)
 have HE1:=hidden (hf.orf (gt_er b))
 clear h
 generalize (gt b).1=c at *
 generalize b.drop (gt b).2.1=b1 at *
 generalize orf f (gt b).2.2=f1 at *
 go_enter Tryz.func297,Tryz.ntmps297
 go_wp2_with fail
 refine HN.out.mono ?_
 rintro e w1 ⟨rfl,hs1,hf1⟩
 have HS1:=hidden hs1
 have HF1:=hidden hf1
 have hz1:=hf1.size
 clear hs1 hf1
 by_cases hmany:n<c
 ·have hm':(c:Int) > (n:Int):=by omega
  go_wp2_with fail
  refine (crefuse_any HS1.out 40).mono ?_
  rintro e w2 ⟨rfl,hs2,hf2⟩
  have HS2:=hidden hs2
  have HF2:=hidden (HF1.out.trans (hf2.mono hz1))
  clear hs2 hf2
  go_wp2_with fail
  go_ret
  exact ⟨[],_,_,⟨_,rfl,OwnS.nil _ _⟩,fun s hs=>by simp at hs,by simp,HS2.out,HMANY.out _ hmany,HF2.out⟩
 ·have hm':¬ (c:Int) > (n:Int):=by omega
  have HL:=hidden (lens_any HS1.out HE1.out c (by omega))
  go_wp2_with fail
  refine HL.out.mono ?_
  rintro e w2 ⟨u,b2,f2,⟨v2,rfl,ho2⟩,hts,hul,hs2,hrp2,hf2⟩
  have HO2:=hidden ho2
  have HTS:=hidden hts
  have HRP2:=hidden hrp2
  have HF2:=hidden (HF1.out.trans (hf2.mono hz1))
  have hz2:=hf2.size
  have HB2:=hidden hs2.bs
  have HLN:=hidden (lastNumbers_any hs2 n)
  have HSF:=hidden (readM_safe hs2.bs hn)
  have HU2:=hidden ho2.sv
  obtain ⟨au,cu,rfl,hcu,hcmu⟩:=own_slice ho2
  have hcmu':cu<=9223372036854775807:=by unfold maxLen at hcmu;omega
  have HUB:Hid (∀ k,(Value.slice au u.length cu).ownBlock=some k->k<w2.heap.size/\k≠p):=hidden (fun k hk=>by
   have:=ho2.lt k hk
   exact ⟨this.2,by omega⟩)
  clear ho2 hts hs2 hrp2 hf2 hcmu
  have HBAD2:=hidden (fun bz j hj hw=>HBAD.out bz j u b2 f2 HRP2.out hj hw)
  have HDONE2:=hidden (fun hall=>HDONE.out u b2 f2 HB2.out HTS.out HRP2.out hall)
  clear HBAD HDONE
  generalize (readM b2 n).1=pl at *
  generalize orf f2 (readM b2 n).2=f3 at *
  have hpll:=HSF.out.2
  go_wp2_with fail
  refine HLN.out.mono ?_
  rintro e w3 ⟨⟨v3,rfl,ho3⟩,hs3,hf3⟩
  have HS3:=hidden hs3
  have HF3:=hidden (HF2.out.trans (hf3.mono (Nat.le_trans hz1 hz2)))
  have hz3:=hf3.size
  have HU3:=hidden (HU2.out.keptFr HUB.out hf3)
  have HV3:=hidden ho3.sv
  have HVB:Hid (∀ k,v3.ownBlock=some k->k<w3.heap.size):=hidden (fun k hk=>(ho3.lt k hk).2)
  have HUB3:Hid (∀ k,(Value.slice au u.length cu).ownBlock=some k->k<w3.heap.size):=hidden (fun k hk=>by have:=(HUB.out k hk).1;omega)
  obtain ⟨a3,c3,rfl,hc3,hcm3⟩:=own_slice ho3
  have hcm3':c3<=9223372036854775807:=by unfold maxLen at hcm3;omega
  clear ho3 hs3 hf3 hcm3
  go_wp2_with fail
  go_loopw [7,26] (fun o i wr=>∃ j:Nat,j<=pl.length/\i=.int .i64 (j:Int)/\OwnS wr w3.heap.size o ((pl.take j).map fun q=>u.getD q.toNat [])/\(∀ q∈pl.take j,0<=q/\q<(u.length:Int))/\Below w3.heap.size w3 wr) (fun _ i _=>pl.length-(intOf i).toNat)
  case atStart=>exact ⟨0,by omega,rfl,OwnS.nil _ _,fun q hq=>by simp at hq,Below.refl _ _⟩
  case round =>
   obtain ⟨j,hj,rfl,hown,hall,hbel⟩:=hrel
   have HO:=hidden hown
   have HALL:=hidden hall
   have HBE:=hidden hbel
   have hzr:=hbel.size
   have HSR:=hidden (HS3.out.kept hbel HS3.out.lt)
   clear hown hall hbel
   by_cases hjl:j<pl.length
   ·obtain ⟨g,off,rfl,hg,hcell⟩:=(HV3.out.keptB HVB.out HBE.out).at hjl
    have HBD:=hidden (fun bz hw=>HBAD2.out bz j hjl hw)
    have hjl':(j:Int)<(pl.length:Int):=by omega
    have HTK:Hid (pl.take (j+1)=pl.take j++[pl[j]]):=hidden (List.take_succ_eq_append_getElem hjl)
    generalize pl[j]=z at *
    by_cases hz0:z<0
    ·go_wp2_with fail
     refine (crefuse_any HSR.out 40).mono ?_
     rintro e w4 ⟨rfl,hs4,hf4⟩
     have HS4:=hidden hs4
     have HF4:=hidden (HF3.out.trans ((Fr.of_below (HBE.out.mono (show w.heap.size<=w3.heap.size by omega))).trans (hf4.mono (by omega))))
     clear hs4 hf4
     go_wp2_with fail
     go_ret
     exact ⟨[],_,_,⟨_,rfl,OwnS.nil _ _⟩,fun s hs=>by simp at hs,by simp,HS4.out,HBD.out _ (Or.inl hz0),HF4.out⟩
    ·by_cases hzu:z>=(u.length:Int)
     ·go_wp2_with fail
      refine (crefuse_any HSR.out 40).mono ?_
      rintro e w4 ⟨rfl,hs4,hf4⟩
      have HS4:=hidden hs4
      have HF4:=hidden (HF3.out.trans ((Fr.of_below (HBE.out.mono (show w.heap.size<=w3.heap.size by omega))).trans (hf4.mono (by omega))))
      clear hs4 hf4
      go_wp2_with fail
      go_ret
      exact ⟨[],_,_,⟨_,rfl,OwnS.nil _ _⟩,fun s hs=>by simp at hs,by simp,HS4.out,HBD.out _ (Or.inr hzu),HF4.out⟩
     ·obtain ⟨zn,rfl⟩:∃ zn:Nat,z=(zn:Int):=⟨z.toNat,by omega⟩
      have hzn:zn<u.length:=by omega
      obtain ⟨gu,offu,rfl,hgu,hcu2⟩:=(HU3.out.keptB HUB3.out HBE.out).at1 (svals_getC hzn)
      have hgd:u.getD zn []=u[zn]:=by rw [List.getD_eq_getElem?_getD,List.getElem?_eq_getElem hzn];rfl
      have HNX:Hid ((pl.take (j+1)).map (fun q=>u.getD q.toNat [])=((pl.take j).map fun q=>u.getD q.toNat [])++[u[zn]]):=hidden (by
       rw [HTK.out,List.map_append,List.map_cons,List.map_nil,Int.toNat_natCast,hgd])
      have HNA:Hid (∀ q∈pl.take (j+1),0<=q/\q<(u.length:Int)):=hidden (fun q hq=>by
       rw [HTK.out] at hq
       rcases List.mem_append.1 hq with hq | hq
       ·exact HALL.out q hq
       ·have:q=(zn:Int):=by simpa using hq
        omega)
      have hlen':((pl.take j).map fun q=>u.getD q.toNat []).length<=100000:=by rw [List.length_map,List.length_take];omega
      rw [txt_eq] at hcu2
      clear HBD HTK hgd
      generalize ((pl.take j).map fun q=>u.getD q.toNat [])=L at *
      generalize u[zn]=x at *
      go_wp2_with (first | (at_builtin;refine wpList_append_s rfl _ _ rfl w3.heap.size _ _ x L rfl (HO.out.kept (below_one _ _)) rfl (cell_new _ _ _) hlen' ?c2 ?_))
      case c2=>first | omega | (rw [World.size_alloc];omega)
      intro v' w5 o5 b5
      have HO5:=hidden o5
      have HB5:=hidden ((HBE.out.alloc hzr (.cells #[txt x] 9)).trans b5)
      clear o5 b5
      go_wp2_with fail
      go_roundw
      case rel=>exact ⟨j+1,by omega,by go_num,by rw [HNX.out];exact HO5.out,HNA.out,HB5.out⟩
      case measure=>simp [intOf];omega
   ·have:j=pl.length:=by omega
    subst this
    rw [List.take_length] at HO HALL
    have HDN:=hidden (HDONE2.out HALL.out)
    have hge:¬ ((pl.length:Nat):Int)<(pl.length:Int):=by omega
    have HFA:=hidden (HF3.out.trans (Fr.of_below (p:=p) (HBE.out.mono (show w.heap.size<=w3.heap.size by omega))))
    have HTL:Hid (Ts (pl.map fun q=>u.getD q.toNat [])):=hidden (fun s hs=>by
     obtain ⟨q,_,rfl⟩:=List.mem_map.1 hs
     exact getD_ts HTS.out q.toNat)
    have hll:(pl.map fun q=>u.getD q.toNat []).length<=n:=by rw [List.length_map];omega
    generalize (pl.map fun q=>u.getD q.toNat [])=L at *
    go_wp2_with fail
    go_ret
    exact ⟨L,[],f3,⟨_,rfl,own_low HO.out (by omega)⟩,HTL.out,hll,HSR.out,HDN.out,HFA.out⟩
def byW (b:List Nat) (l:List (List Nat)) (r:List Nat):Prop:=b=wordsB l/\r=[]
theorem rtexts_any {w:World} {p f:Nat} {b:List Nat} (h:Rs w p b f) (hf:Er f) (n:Nat) (hn:n<=256) :
  Calls Tryz.prog 279 #[.pointer (some ⟨p,0,none⟩),.int .i64 (n:Int)] w (TPost n (byW b) p f w):=by
 have HC:=hidden (choice_any h)
 have hef:Er (chF b f):=by
  unfold chF
  split
  ·exact hf.orf er30
  ·split
   ·exact hf
   ·exact hf.orf er40
 have HEF:=hidden hef
 have hx2:chX b<=1:=by
  unfold chX
  split
  ·omega
  ·split<;>omega
 have HW1:Hid (chX b=1->∀ l b' f',RP (Nt n) (byP b.tail) (chF b f) l b' f'->RP (Nt n) (byW b) f l b' f'):=hidden (fun hx l b' f' hr=>by
  obtain ⟨r1,r2,r3⟩:=hr
  cases b with
  | nil=>simp [chX] at hx
  | cons x t =>
   have hx1:x=1:=by
    unfold chX at hx
    simp only at hx
    split at hx<;>omega
   subst hx1
   have hcf:chF (1::t) f=f:=by simp [chF]
   rw [hcf] at r2 r3
   refine ⟨r1,r2,fun y r a1 a2 a3=>r3 y r a1 a2 ⟨?_,a3.2⟩⟩
   have h3:=a3.1
   unfold wordsB at h3
   split at h3
   ·unfold listed at h3
    simpa using h3
   ·unfold plain at h3
    simp at h3)
 have HW0:Hid (chX b≠1->∀ l b' f',RP (Nt n) (fun l r=>b.tail=txts l++r) (chF b f) l b' f'->RP (Nt n) (byW b) f l b' f'):=hidden (fun hx l b' f' hr=>by
  obtain ⟨r1,r2,r3⟩:=hr
  refine ⟨r1,fun h=>?_,fun y r a1 a2 a3=>?_⟩
  ·obtain ⟨e1,e2⟩:=r2 h
   refine ⟨?_,e2⟩
   unfold chF at e1
   split at e1
   ·exact (orf_eq_zero e1).1
   ·split at e1
    ·exact e1
    ·exact (orf_eq_zero e1).1
  ·have h3:=a3.1
   unfold wordsB at h3
   split at h3
   ·unfold listed at h3
    rw [h3] at hx
    exact absurd rfl hx
   ·unfold plain at h3
    have hcf:chF b f=f:=by rw [h3];simp [chF]
    have ht:b.tail=txts y:=by rw [h3];rfl
    rw [hcf] at r3
    have:=r3 y [] a1 a2 (by show b.tail=txts y++[];rw [ht,List.append_nil])
    rw [a3.2]
    exact this)
 clear h
 generalize chX b=x at *
 generalize chF b f=f1 at *
 by_cases hx:x=1
 ·have HW2:=hidden (HW1.out hx)
  clear HW1 HW0
  subst hx
  go_enter Tryz.func279,Tryz.ntmps279
  go_wp2_with fail
  refine HC.out.mono ?_
  rintro e w1 ⟨rfl,hs1,hf1⟩
  have HF1:=hidden hf1
  have hz1:=hf1.size
  have HT:=hidden (textsByPlaces_any hs1 HEF.out n hn)
  clear hs1 hf1
  go_wp2_with fail
  refine HT.out.mono ?_
  rintro e w2 ⟨l,b2,f2,⟨v2,rfl,ho2⟩,hts,hll,hs2,hrp,hf2⟩
  have HO2:=hidden (own_low ho2 hz1)
  have HTS:=hidden hts
  have HS2:=hidden hs2
  have HRP:=hidden (HW2.out l b2 f2 hrp)
  have HF2:=hidden (HF1.out.trans (hf2.mono hz1))
  clear ho2 hts hs2 hrp hf2
  go_wp2_with fail
  go_ret
  exact ⟨l,b2,f2,⟨_,rfl,HO2.out⟩,HTS.out,hll,HS2.out,HRP.out,HF2.out⟩
 ·have HW2:=hidden (HW0.out hx)
  clear HW1 HW0
  obtain rfl:x=0:=by omega
  go_enter Tryz.func279,Tryz.ntmps279
  go_wp2_with fail
  refine HC.out.mono ?_
  rintro e w1 ⟨rfl,hs1,hf1⟩
  have HF1:=hidden hf1
  have hz1:=hf1.size
  have HT:=hidden (lens_any hs1 HEF.out n hn)
  clear hs1 hf1
  go_wp2_with fail
  refine HT.out.mono ?_
  rintro e w2 ⟨l,b2,f2,⟨v2,rfl,ho2⟩,hts,hll,hs2,hrp,hf2⟩
  have HO2:=hidden (own_low ho2 hz1)
  have HTS:=hidden hts
  have HS2:=hidden hs2
  have HRP:=hidden (HW2.out l b2 f2 hrp)
  have HF2:=hidden (HF1.out.trans (hf2.mono hz1))
  clear ho2 hts hs2 hrp hf2
  go_wp2_with fail
  go_ret
  exact ⟨l,b2,f2,⟨_,rfl,HO2.out⟩,HTS.out,hll,HS2.out,HRP.out,HF2.out⟩
end Go.Proofs.YtpljdjmpamjkhaaGreatDoor
