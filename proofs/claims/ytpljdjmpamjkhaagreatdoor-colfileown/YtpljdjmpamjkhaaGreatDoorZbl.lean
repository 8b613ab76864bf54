/- Rows of values of the call's own. The reader of files: file. -/
import Derived.Test.YtpljdjmpamjkhaaGreatDoorZbk
import Derived.Test.YtpljdjmpamjkhaaGreatDoorZbd
set_option linter.unusedVariables false
set_option linter.unusedSimpArgs false
namespace Go.Proofs.YtpljdjmpamjkhaaGreatDoor
open Go.RowKit Go.Lib
theorem own_form3 {W:World} {B:Nat} {e:TypeId} {size n:Nat} {v:Value} {xs:List Value} (h:W.ownsRow B e size v n xs):∃ a c,v=.slice a n c/\n<=c/\c<=9223372036854775807:=by
 rcases h with ⟨h0,⟨h1,h2⟩ | ⟨g,cap,cur,h1,h2,h3,h4,h5,_⟩⟩
 ·exact ⟨none,0,by rw [h1,h2],by omega,by omega⟩
 ·exact ⟨_,cap,h1,h4,by unfold maxLen at h5;omega⟩
theorem own_cell3 {W:World} {B:Nat} {e:TypeId} {size n m c:Nat} {a:Option Addr} {xs:List Value} (h:W.ownsRow B e size (.slice a m c) n xs) {i:Nat} {x:Value} (hx:xs[i]?=some x) :
  ∃ g,a=some ⟨g,0,none⟩/\B<=g/\g<W.heap.size/\W.cell? ⟨g,i,none⟩=some x:=by
 have hlt:=(List.getElem?_eq_some_iff.1 hx).1
 rcases h with ⟨h0,⟨h1,h2⟩ | ⟨g,cap',cur,h1,h2,h3,h4,h5,h6,h7⟩⟩
 ·subst h2
  simp at h0
  rw [h0] at hlt
  simp at hlt
 ·simp only [Value.slice.injEq] at h1
  obtain ⟨rfl,rfl,rfl⟩:=h1
  refine ⟨g,rfl,h2,(Array.getElem?_eq_some_iff.1 h3).1,?_⟩
  simp only [World.cell?,h3]
  rw [← h7] at hx
  have hl2:=(List.getElem?_eq_some_iff.1 hx).1
  rw [List.length_take] at hl2
  rw [List.getElem?_take_of_lt (by omega)] at hx
  simpa using hx
def Ow (W:World) (B:Nat) (v:Value) (l:List (Value×Row)):Prop:=W.ownsRow B 79 1 v l.length (l.map Prod.fst)/\∀ x∈l,OwnV W B x.1 x.2
theorem Ow.nil (W:World) (B:Nat):Ow W B (.slice none 0 0) []:=⟨World.ownsRow_nil _ _ _ _,fun x hx=>by simp at hx⟩
theorem Ow.kept {W W':World} {B:Nat} {v:Value} {l:List (Value×Row)} (h:Ow W B v l) (hb:Below W.heap.size W W'):Ow W' B v l:=⟨own_kept h.1 hb,fun x hx=>(h.2 x hx).kept hb⟩
theorem Ow.low {W:World} {B B':Nat} {v:Value} {l:List (Value×Row)} (h:Ow W B v l) (hB:B'<=B):Ow W B' v l:=⟨own_lower h.1 hB,fun x hx=>(h.2 x hx).of_le hB⟩
theorem Ow.form {W:World} {B:Nat} {v:Value} {l:List (Value×Row)} (h:Ow W B v l):∃ a cap,v=.slice a l.length cap/\l.length<=cap/\cap<=maxLen/\(a=none->cap=0):=by
 rcases h.1 with ⟨h0,⟨h1,h2⟩ | ⟨g,cap,cur,h1,h2,h3,h4,h5,_⟩⟩
 ·exact ⟨none,0,by rw [h1,h2],by omega,by unfold maxLen;omega,fun _=>rfl⟩
 ·exact ⟨_,cap,h1,h4,h5,fun e=>by cases e⟩
theorem Ow.at {W:World} {B:Nat} {a:Option Addr} {n cap:Nat} {l:List (Value×Row)} (h:Ow W B (.slice a n cap) l) {k:Nat} (hk:k<l.length) :
  ∃ g,a=some ⟨g,0,none⟩/\g<W.heap.size/\W.cell? ⟨g,k,none⟩=some l[k].1/\OwnV W B l[k].1 l[k].2:=by
 rcases h with ⟨⟨h0,⟨h1,h2⟩ | ⟨g,cap',cur,h1,h2,h3,h4,h5,h6,h7⟩⟩,hr⟩
 ·omega
 ·simp only [Value.slice.injEq] at h1
  obtain ⟨rfl,rfl,rfl⟩:=h1
  refine ⟨g,rfl,(Array.getElem?_eq_some_iff.1 h3).1,?_,(hr _ (List.getElem_mem hk))⟩
  have hj:(l.map Prod.fst)[k]?=some l[k].1:=by simp [hk]
  simp only [World.cell?,h3]
  rw [← h7] at hj
  have hlt:=(List.getElem?_eq_some_iff.1 hj).1
  rw [List.length_take] at hlt
  rw [List.getElem?_take_of_lt (by omega)] at hj
  simpa using hj
theorem Ow.sv {W:World} {B:Nat} {v:Value} {l:List (Value×Row)} (h:Ow W B v l):Sv W v (l.map Prod.fst):=by
 have:=Sv.of_own h.1
 exact this
theorem Ow.rv {W:World} {B:Nat} {v:Value} {l:List (Value×Row)} (h:Ow W B v l):Rv W v (l.map Prod.snd):=by
 obtain ⟨a,cap,rfl,h1,h2,h3⟩:=h.form
 refine ⟨a,cap,by rw [List.length_map],by rw [List.length_map];exact h1,h2,h3,fun h0=>?_⟩
 rw [List.length_map] at h0
 obtain ⟨g,e,h4,_⟩:=h.at h0
 refine ⟨g,0,e,h4,fun j hj=>?_⟩
 rw [List.length_map] at hj
 obtain ⟨g',e',h5,h6,h7⟩:=h.at hj
 obtain rfl:g=g':=by rw [e] at e';cases e';rfl
 refine ⟨_,by rw [Nat.zero_add];exact h6,?_⟩
 have:=h7.sv
 simpa using this
theorem sv_lit1 {W:World} {g:Nat} {z:Value} (hc:W.cell? ⟨g,0,none⟩=some z) (hg:g<W.heap.size):Sv W (.slice (some ⟨g,0,none⟩) 1 1) [z] :=
 ⟨_,1,rfl,Nat.le_refl _,by unfold maxLen;omega,fun e=>(by cases e),fun _=>⟨g,0,rfl,hg,fun j x hx=>by
  cases j with
  | zero =>
   simp only [List.getElem?_cons_zero,Option.some.injEq] at hx
   rw [← hx]
   exact hc
  | succ j=>simp at hx⟩⟩
theorem run_append_w {w:World} (ty:TypeId) (base:Nat) (v vx:Value) (l0 l:List (Value×Row)) (hown:Ow w base v l0) (hsl:Sv w vx (l.map Prod.fst)) (hr:∀ x∈l,OwnV w base x.1 x.2) (hbytes:l0.length+l.length<=1000000) (hbase:base<=w.heap.size) :
  ∃ v' w',(Builtin.append_ #[34,34] ty #[v,vx]).run Tryz.prog w=.ok v' w'/\Ow w' base v' (l0++l)/\Below base w w':=by
 obtain ⟨i0,hi,hz0,hz1',hz2⟩:=info_parts info79A
 obtain ⟨ad,cap,rfl,h1,h2,h3,h4⟩:=hsl
 rw [List.length_map] at *
 have one:∀ x∈l.map Prod.fst,x.oneCell'=true:=fun x hx=>by
  obtain ⟨y,hy,rfl⟩:=List.mem_map.1 hx
  obtain ⟨a,n,c,e⟩:=own_slice3 (hr y hy)
  rw [e]
  rfl
 cases ad with
 | none =>
  have hc:=h3 rfl
  subst hc
  have hl:l=[]:=List.eq_nil_of_length_eq_zero (by omega)
  subst hl
  have hr:=run_append_owned_none (P:=Tryz.prog) (w:=w) base 34 ty 79 i0 1 Tryz.underlying34 hi v l0.length (l0.map Prod.fst) hown.1
  refine ⟨v,w,hr,by rw [List.append_nil];exact hown,Below.refl _ _⟩
 | some ad =>
  obtain ⟨v',w',hrun,o1,g1,_,e1⟩:=run_append_own_at (P:=Tryz.prog) w base 34 ty 79 i0 (.slice none 0 0) 1 24 Tryz.underlying34 hi hz0 hz1' hz2 rfl (by decide) v l0.length (l0.map Prod.fst) hown.1 ad l.length cap (l.map Prod.fst) (by rw [List.length_map];omega)
   (fun j u hu=>by
    have hj:j<l.length:=by
     have:=(List.getElem?_eq_some_iff.1 hu).1
     rwa [List.length_map] at this
    obtain ⟨b,off,h5,_,h6⟩:=h4 (by omega)
    cases h5
    rw [addj]
    exact h6 j u hu) one (by unfold maxLen;omega) (by omega) hbase
  have keep:∀ y:Value×Row,OwnV w base y.1 y.2->OwnV w' base y.1 y.2:=fun y hy =>
   ownG_same hy fun k hk=>g1.block k (ownG_block hy hk).2.1 (fun e=>ownG_types hy hown.1 (by decide) hk e.symm)
  refine ⟨v',w',hrun,⟨?_,fun y hy=>?_⟩,(Below.refl base w).grown g1 hbase (fun k hk=>(hown.1.lt k hk).1)⟩
  ·rw [List.length_append,List.map_append]
   exact o1
  ·rcases List.mem_append.1 hy with hy | hy
   ·exact keep y (hown.2 y hy)
   ·exact keep y (hr y hy)
theorem op_append_w {w:World} {o:Oper} {a:Act} {K:Act->World->Prop} {Q:Exit->Act->World->Prop} (s x:Operand)
  (ho:o.op=.call { callee:=.builtin .append,args:=#[s,x],argTypes:=#[34,34] })
  (base:Nat) (v vx:Value) (l0 l:List (Value×Row)) (hs:a.eval s=v) (hown:Ow w base v l0) (hx:a.eval x=vx) (hsl:Sv w vx (l.map Prod.fst)) (hr:∀ x∈l,OwnV w base x.1 x.2) (hbytes:l0.length+l.length<=1000000) (hbase:base<=w.heap.size)
  (h:∀ v' w',Ow w' base v' (l0++l)->Below base w w'->K (a.put o.dst v') w'):Oper.wp Tryz.prog o a w K Q:=by
 obtain ⟨v',w',hr,h2,h3⟩:=run_append_w o.type base v vx l0 l hown hsl hr hbytes hbase
 unfold Oper.wp execOp
 simp only [ho,resolve,invoke,builtin,Sem.run_bind,Sem.run_pure,Result.andThen_ok,List.map_toArray,List.map_cons,List.map_nil,hs,hx,hr]
 exact h v' w' h2 h3
theorem wpList_append_w {w:World} {ops:Array Oper} {rest:List Oper} {o:Oper} {a:Act} {Q:Exit->Act->World->Prop} (hgd:o.guard=none) (s x:Operand)
  (ho:o.op=.call { callee:=.builtin .append,args:=#[s,x],argTypes:=#[34,34] })
  (base:Nat) (v vx:Value) (l0 l:List (Value×Row)) (hs:a.eval s=v) (hown:Ow w base v l0) (hx:a.eval x=vx) (hsl:Sv w vx (l.map Prod.fst)) (hr:∀ x∈l,OwnV w base x.1 x.2) (hbytes:l0.length+l.length<=1000000) (hbase:base<=w.heap.size)
  (h:∀ v' w',Ow w' base v' (l0++l)->Below base w w'->wpList Tryz.prog ops Q rest (a.put o.dst v') w') :
  wpList Tryz.prog ops Q (o::rest) a w :=
 wpList_plain hgd fun K hK=>op_append_w s x ho base v vx l0 l hs hown hx hsl hr hbytes hbase fun v' w' h1 h2=>hK _ _ (h v' w' h1 h2)
theorem OwnV.over {W:World} {B:Nat} {v:Value} {cs:Row} (h:OwnV W B v cs) (g:Nat) (c:Cl):∃ cs':Row,cs'.length=cs.length/\OwnV (W.setCell ⟨g,0,none⟩ (valC c)) B v cs':=by
 by_cases hg:v.ownBlock=some g
 ·refine ⟨cs.set 0 c,List.length_set,?_⟩
  unfold OwnV at *
  rcases h with ⟨h0,⟨h1,h2⟩ | ⟨g',cap,cur,h1,h2,h3,h4,h5,h6,h7⟩⟩
  ·rw [h1] at hg;cases hg
  ·subst h1
   cases hg
   rw [List.length_set]
   have hv:vvals (cs.set 0 c)=(vvals cs).set 0 (valC c):=by unfold vvals;rw [List.map_set]
   refine ⟨by rw [hv,List.length_set];exact h0,.inr ⟨g',cap,cur.setIfInBounds 0 (valC c),rfl,h2,?_,h4,h5,by simpa using h6,?_⟩⟩
   ·rw [heap_setC h3]
   ·rw [hv,← h7]
    simp [List.take_set]
 ·exact ⟨cs,rfl,ownG_same h fun k hk=>Below.heap_setCell _ _ _ _ (fun e=>hg (by rw [hk,e]))⟩
theorem Ow.over {W:World} {B:Nat} {v:Value} {l:List (Value×Row)} (h:Ow W B v l) {g:Nat} (hg:v.ownBlock≠some g) (c:Cl) :
  ∃ l':List (Value×Row),l'.map Prod.fst=l.map Prod.fst/\l'.map (fun x=>x.2.length)=l.map (fun x=>x.2.length)/\Ow (W.setCell ⟨g,0,none⟩ (valC c)) B v l':=by
 have hrow:∀ m:List (Value×Row),(∀ x∈m,OwnV W B x.1 x.2)->∃ l':List (Value×Row),l'.map Prod.fst=m.map Prod.fst/\l'.map (fun x=>x.2.length)=m.map (fun x=>x.2.length)/\∀ x∈l',OwnV (W.setCell ⟨g,0,none⟩ (valC c)) B x.1 x.2:=by
  intro m
  induction m with
  | nil=>exact fun _=>⟨[],rfl,rfl,fun x hx=>by simp at hx⟩
  | cons y t ih =>
   intro hm
   obtain ⟨l',e1,e2,e3⟩:=ih fun x hx=>hm x (List.mem_cons_of_mem _ hx)
   obtain ⟨cs',f1,f2⟩:=(hm y (List.mem_cons_self ..)).over g c
   refine ⟨(y.1,cs')::l',by simp [e1],by simp [e2,f1],fun x hx=>?_⟩
   rcases List.mem_cons.1 hx with rfl | hx
   ·exact f2
   ·exact e3 x hx
 obtain ⟨l',e1,e2,e3⟩:=hrow l h.2
 have hl:l'.length=l.length:=by simpa using congrArg List.length e1
 refine ⟨l',e1,e2,?_,e3⟩
 rw [e1,hl]
 exact ownG_same h.1 fun k hk=>Below.heap_setCell _ _ _ _ (fun e=>hg (by rw [hk,e]))
end Go.Proofs.YtpljdjmpamjkhaaGreatDoor
set_option linter.unusedVariables false
set_option linter.unusedSimpArgs false
set_option maxRecDepth 100000
set_option maxHeartbeats 4000000
namespace Go.Proofs.YtpljdjmpamjkhaaGreatDoor
open Go.RowKit Go.Lib
theorem fiJ_len {fs:List Fd} {g tot:Nat} {s:S3}:∀ j:Nat,(fiJ fs g tot s j).2.1.length<=s.1.length
 | 0=>Nat.le_refl _
 | j+1=>Nat.le_trans (grK_rows (Nat.le_refl _)).2.2.1 (fiJ_len j)
theorem fiJ_sticky {fs:List Fd} {g tot:Nat} {s:S3} {m j:Nat} (h:j<=m) (hf:(fiJ fs g tot s j).2.2.2=true):(fiJ fs g tot s m).2.2.2=true:=by
 cases e:(fiJ fs g tot s m).2.2.2 with
 | true=>rfl
 | false =>
  rw [fiJ_failed h e] at hf
  cases hf
theorem fiJ_len1 {fs:List Fd} {g tot:Nat} {s:S3}:∀ j:Nat,(fiJ fs g tot s j).1.length=j
 | 0=>rfl
 | j+1=>by
  show (_++[_]).length=_
  rw [List.length_append,fiJ_len1 j]
  rfl
def FilX (W:World) (B fp id:Nat) (fv gv:Value) (xs:List Value) (gs:List Gr):Prop :=
 W.heap[fp]?=some (.cells #[.int .u32 (id:Int),fv,gv] 105 (0,0))/\B<=fp/\W.ownsRow B 109 2 gv gs.length xs /\
  ∀ j (h:j<gs.length),∃ a b,xs[2*j]?=some a/\xs[2*j+1]?=some b/\Gro W B (.agg #[a,b]) gs[j].1 gs[j].2
theorem FilX.fil {W:World} {B fp id:Nat} {fv gv:Value} {xs:List Value} {gs:List Gr} (h:FilX W B fp id fv gv xs gs):Fil W B fp id fv gs:=⟨gv,xs,h⟩
theorem FilX.turn {W W':World} {B fp id:Nat} {fv gv:Value} {xs:List Value} {gs:List Gr} (h:FilX W B fp id fv gv xs gs) (hb:∀ k,B<=k->k<W.heap.size->W'.heap[k]?=W.heap[k]?):FilX W' B fp id fv gv xs gs:=by
 obtain ⟨h1,h2,h3,h4⟩:=h
 refine ⟨(hb fp h2 (Array.getElem?_eq_some_iff.1 h1).1).trans h1,h2,ownG_same h3 fun k hk=>?_,fun j hj=>?_⟩
 ·obtain ⟨a,b,_⟩:=ownG_block h3 hk
  exact hb k a b
 ·obtain ⟨a,b,e1,e2,e3⟩:=h4 j hj
  exact ⟨a,b,e1,e2,e3.turn fun k _ _ k1 k2 _ _ _=>hb k k1 k2⟩
theorem FilX.kept {W W':World} {B fp id:Nat} {fv gv:Value} {xs:List Value} {gs:List Gr} (h:FilX W B fp id fv gv xs gs) (hb:Below W.heap.size W W'):FilX W' B fp id fv gv xs gs:=h.turn fun k _ hk=>hb.block k hk
theorem FilX.frp {W W':World} {B fp id p:Nat} {fv gv:Value} {xs:List Value} {gs:List Gr} (h:FilX W B fp id fv gv xs gs) (hf:Fr p W.heap.size W W') (hp:p<B):FilX W' B fp id fv gv xs gs:=h.turn fun k hB hk=>hf.block k hk (by omega)
theorem FilX.lt {W:World} {B fp id:Nat} {fv gv:Value} {xs:List Value} {gs:List Gr} (h:FilX W B fp id fv gv xs gs):fp<W.heap.size:=(Array.getElem?_eq_some_iff.1 h.1).1
theorem FilX.cell {W:World} {B fp id:Nat} {fv gv:Value} {xs:List Value} {gs:List Gr} (h:FilX W B fp id fv gv xs gs):W.cell? ⟨fp,2,none⟩=some gv:=by
 rw [cell_block h.1]
 rfl
theorem Fil.low {W:World} {B B' fp id:Nat} {fv:Value} {gs:List Gr} (h:Fil W B fp id fv gs) (hB:B'<=B):Fil W B' fp id fv gs:=by
 obtain ⟨gv,xs,h1,h2,h3,h4⟩:=h
 refine ⟨gv,xs,h1,Nat.le_trans hB h2,⟨h3.1,h3.2.imp (fun x=>x) fun ⟨g,cap,cur,hv,hb,r⟩=>⟨g,cap,cur,hv,Nat.le_trans hB hb,r⟩⟩,fun j hj=>?_⟩
 obtain ⟨a,b,e1,e2,e3⟩:=h4 j hj
 exact ⟨a,b,e1,e2,e3.low hB⟩
theorem r3file_any {w:World} {p:Nat} {c f:List Nat} (h:R3 w p c f false) {fv:Value} {fs:List Fd} (hs:Sf w fv fs) (hw:∀ i,fv.ownBlock=some i->i<p) (hk:∀ x∈fs,1<=x.2.2.1/\x.2.2.1<=3) (id:Nat) (hfl:fs.length<=8) (hcl:c.length<=100000000) :
  Calls Tryz.prog 97 #[.pointer (some ⟨p,0,none⟩),.agg #[.int .u32 (id:Int),fv]] w fun r w'=>∃ fp,r=.returned (.tuple #[.pointer (some ⟨fp,0,none⟩),.int .i64 (valW 1 64 (rstW f):Int)])/\(∃ c' f',R3 w' p c' f' (restF fs c f).2.2.2)/\((restF fs c f).2.2.2=false->Fil w' w.heap.size fp id fv (restF fs c f).1)/\Fr p w.heap.size w w':=by
 have hlt:=h.lt
 have HW1:=hidden (fun (U:World) (hU:R3 U p c f false)=>within_any hU 0 256 (by omega) (by omega))
 have HW2:=hidden (fun (U:World) (fl:Bool) (hU:R3 U p c (rstW f) fl)=>within_any hU 1 64 (by omega) (by omega))
 have hv1:=valW_le 0 256 f
 have hv2:=valW_le 1 64 (rstW f)
 have HLO:=hidden (fun h=>valW_lo (lo:=1) (hi:=64) (b:=rstW f) h)
 have HE:Hid (restF fs c f=fiJ fs (valW 1 64 (rstW f)) (valW 0 256 f) (c,rstW (rstW f),badW 0 256 f || badW 1 64 (rstW f)) (nps (valW 1 64 (rstW f)) (valW 0 256 f))):=hidden rfl
 rw [HE.out]
 clear HE
 generalize valW 0 256 f=tot at *
 generalize valW 1 64 (rstW f)=g at *
 obtain ⟨bd1,hbd1⟩:∃ b,badW 0 256 f=b:=⟨_,rfl⟩
 obtain ⟨bd2,hbd2⟩:∃ b,badW 1 64 (rstW f)=b:=⟨_,rfl⟩
 simp only [hbd1,hbd2,Bool.false_or] at HW1 HW2 HLO ⊢
 clear hbd1 hbd2
 have HJL:=hidden (fun j=>fiJ_len (fs:=fs) (g:=g) (tot:=tot) (s:=(c,rstW (rstW f),bd1 || bd2)) j)
 have HJ1:=hidden (fun j=>fiJ_len1 (fs:=fs) (g:=g) (tot:=tot) (s:=(c,rstW (rstW f),bd1 || bd2)) j)
 have HJS:=hidden (fun m j (hj:j<=m)=>fiJ_sticky (fs:=fs) (g:=g) (tot:=tot) (s:=(c,rstW (rstW f),bd1 || bd2)) hj)
 have HJ0:Hid (fiJ fs g tot (c,rstW (rstW f),bd1 || bd2) 0=([],(c,rstW (rstW f),bd1 || bd2))):=hidden rfl
 have HJN:Hid (∀ j,fiJ fs g tot (c,rstW (rstW f),bd1 || bd2) (j+1)=((fiJ fs g tot (c,rstW (rstW f),bd1 || bd2) j).1++[((grK fs (min (tot-j*g) g) (fiJ fs g tot (c,rstW (rstW f),bd1 || bd2) j).2 fs.length).1,(grK fs (min (tot-j*g) g) (fiJ fs g tot (c,rstW (rstW f),bd1 || bd2) j).2 fs.length).2.1)],(grK fs (min (tot-j*g) g) (fiJ fs g tot (c,rstW (rstW f),bd1 || bd2) j).2 fs.length).2.2)):=hidden (fun j=>rfl)
 obtain ⟨J,hJ⟩:∃ J,fiJ fs g tot (c,rstW (rstW f),bd1 || bd2)=J:=⟨_,rfl⟩
 rw [hJ] at HJL HJ1 HJS HJ0 HJN ⊢
 clear hJ
 have HNP:=hidden (fun (hg:0<g) (j:Nat)=>nps_le (n:=tot) (j:=j) hg)
 generalize nps g tot=N at *
 obtain ⟨a,cap,rfl,hcap,hcm⟩:=hs.form
 have hb1:=below_one w (.cells #[.int .u32 (id:Int),.slice a fs.length cap] 25)
 obtain ⟨x0,x1⟩:=cell_new2 w (.int .u32 (id:Int)) (.slice a fs.length cap) 25
 have hb2:=below_one (w.alloc (.cells #[.int .u32 (id:Int),.slice a fs.length cap] 25)) (.cells #[.int .u32 (id:Int),.slice a fs.length cap,.slice none 0 0] 105)
 have hA0:w.heap.size<(w.alloc (.cells #[.int .u32 (id:Int),.slice a fs.length cap] 25)).heap.size:=by rw [World.size_alloc];omega
 have sA:((w.alloc (.cells #[.int .u32 (id:Int),.slice a fs.length cap] 25)).alloc (.cells #[.int .u32 (id:Int),.slice a fs.length cap,.slice none 0 0] 105)).heap.size=w.heap.size+2:=by rw [World.size_alloc,World.size_alloc]
 have x2:((w.alloc (.cells #[.int .u32 (id:Int),.slice a fs.length cap] 25)).alloc (.cells #[.int .u32 (id:Int),.slice a fs.length cap,.slice none 0 0] 105)).heap[w.heap.size+1]?=some (.cells #[.int .u32 (id:Int),.slice a fs.length cap,.slice none 0 0] 105 (0,0)):=by
  have:=heap_alloc_new (w.alloc (.cells #[.int .u32 (id:Int),.slice a fs.length cap] 25)) (.cells #[.int .u32 (id:Int),.slice a fs.length cap,.slice none 0 0] 105)
  rwa [World.size_alloc] at this
 have x3:=(hb2.cell (p:=⟨w.heap.size,1,none⟩) hA0).trans x1
 have x4:=(hb2.cell (p:=⟨w.heap.size,0,none⟩) hA0).trans x0
 have hAb:Below w.heap.size w ((w.alloc (.cells #[.int .u32 (id:Int),.slice a fs.length cap] 25)).alloc (.cells #[.int .u32 (id:Int),.slice a fs.length cap,.slice none 0 0] 105)):=below_then hb1 hb2
 have HR:=hidden (h.kept hAb hlt)
 have HS:=hidden (hs.keptW hw (hAb.mono (by omega)))
 have HAB:=hidden hAb
 have HSA:=hidden sA
 have HX2:=hidden x2
 have HX3:=hidden x3
 have HX4:=hidden x4
 have HLT:=hidden hlt
 clear h hs hb1 hb2 hAb sA x2 hA0 x3 x4
 go_enter Tryz.func97,Tryz.ntmps97
 go_upto_region 2 with fail
 generalize (w.alloc (.cells #[.int .u32 (id:Int),.slice a fs.length cap] 25)).alloc (.cells #[.int .u32 (id:Int),.slice a fs.length cap,.slice none 0 0] 105)=A at *
 go_wp2_with fail
 refine (HW1.out _ HR.out).mono ?_
 rintro e w1 ⟨rfl,hr1,hf1⟩
 have HR1:=hidden hr1
 have HF1:=hidden hf1
 clear hr1 hf1
 go_wp2_with fail
 refine (HW2.out _ _ HR1.out).mono ?_
 rintro e w2 ⟨rfl,hr2,hf2⟩
 have HR2:=hidden hr2
 have HF2:=hidden (HF1.out.trans (hf2.mono HF1.out.size))
 clear hr2 hf2
 go_wp2_with fail
 have HFB:=hidden (HF2.out.mono (show w.heap.size+1<=A.heap.size by have:=HSA.out;omega))
 have HK:=hidden hk
 have HFX:Hid (FilX w2 (w.heap.size+1) (w.heap.size+1) id (.slice a fs.length cap) (.slice none 0 0) [] []):=hidden
  ⟨(HF2.out.block (w.heap.size+1) (by have:=HSA.out;omega) (by omega)).trans HX2.out,Nat.le_refl _,World.ownsRow_nil _ _ _ _,fun j hj=>by simp at hj⟩
 have HG1:Hid (∀ j,(J j).2.2.2=false->1<=g):=hidden (fun j hj=>by
  apply HLO.out
  cases bd2
  ·rfl
  ·have h0:(J 0).2.2.2=true:=by rw [HJ0.out];simp
   rw [HJS.out j 0 (Nat.zero_le _) h0] at hj
   cases hj)
 clear hk
 go_loopw [7] (fun i wr=>∃ (j:Nat) (gv:Value) (xs:List Value),i=.int .i64 ((tot-j*g:Nat):Int)/\j<=N/\FilX wr (w.heap.size+1) (w.heap.size+1) id (.slice a fs.length cap) gv xs (J j).1/\R3 wr p (J j).2.1 (J j).2.2.1 (J j).2.2.2/\Fr p (w.heap.size+1) A wr) (fun i _=>(intOf i).toNat)
 case atStart =>
  refine ⟨0,.slice none 0 0,[],by simp,Nat.zero_le _,?_,?_,HFB.out⟩
  ·rw [HJ0.out];exact HFX.out
  ·rw [HJ0.out];exact HR2.out
 case round =>
  obtain ⟨j,gv,xs,rfl,hjN,hx,hr,hf⟩:=hrel
  have HX:=hidden hx
  have HR:=hidden hr
  have HF:=hidden hf
  obtain ⟨_,_,_,_,⟨_,_,r2⟩,⟨_,_,r3⟩,_,_⟩:=hr.cells
  have hll:tot-j*g<=256:=by omega
  generalize hlf:tot-j*g=left at *
  have HLF:=hidden hlf
  clear hlf
  by_cases hp:0<left
  ·have hp':(left:Int) > 0:=by omega
   cases hfl2:(J j).2.2.2
   ·rw [hfl2] at r2
    have hg1:1<=g:=HG1.out j hfl2
    obtain ⟨m,hm⟩:∃ m,min left g=m:=⟨_,rfl⟩
    have hmi:min (left:Int) (g:Int)=(m:Int):=by omega
    have hm1:1<=m/\m<=64:=by omega
    have hml:m<=left:=by omega
    have hJN:=HJN.out j
    have hJl:=HJL.out j
    have hJ1:=HJ1.out j
    have hLF:=HLF.out
    rw [hLF,hm] at hJN
    obtain ⟨⟨gs0,c0,f0,fl0⟩,hJj⟩:∃ x,J j=x:=⟨_,rfl⟩
    rw [hJj] at hJN hJl hJ1 hx hr hfl2
    simp only at hJN hJl hJ1 hx hr hfl2
    subst hfl2
    obtain ⟨KK,hKK⟩:∃ KK,grK fs m (c0,f0,false) fs.length=KK:=⟨_,rfl⟩
    rw [hKK] at hJN
    have HJS1:=hidden hJN
    have HX:=hidden hx
    have HR:=hidden hr
    have hsf:∀ U,Below wr.heap.size wr U->Sf U (.slice a fs.length cap) fs:=fun U hU=>(HS.out.keptW hw (HF.out.below (Nat.le_refl p) (by omega))).kept hU
    have hBA:w.heap.size+1<=A.heap.size:=by have:=HSA.out;omega
    have hBr:w.heap.size+1<wr.heap.size:=hx.lt
    have HGC:Hid (∀ U:World,Below wr.heap.size wr U->Calls Tryz.prog 142 #[.pointer (some ⟨p,0,none⟩),.agg #[.int .u32 (id:Int),.slice a fs.length cap],.int .i64 (m:Int)] U fun e w'=>∃ z1 z2,e=.returned (.agg #[z1,z2])/\(z1.oneCell'=true/\z2.oneCell'=true)/\Gro w' (w.heap.size+1) (.agg #[z1,z2]) KK.1 KK.2.1 /\
      R3 w' p KK.2.2.1 KK.2.2.2.1 KK.2.2.2.2/\FilX w' (w.heap.size+1) (w.heap.size+1) id (.slice a fs.length cap) gv xs gs0/\Fr p (w.heap.size+1) A w'/\w'.cell? ⟨w.heap.size+1,2,none⟩=some gv/\(∀ o,(w'.alloc o).cell? ⟨w.heap.size+1,2,none⟩=some gv)/\w.heap.size+1<=w'.heap.size):=hidden (fun U hU=>by
     have hzU:=hU.size
     refine (r3group_any (HR.out.kept hU HR.out.lt) (hsf U hU) hw HK.out id m hm1 hfl (Nat.le_trans hJl hcl)).mono ?_
     rintro e w' ⟨⟨v,rfl,hgr⟩,hr',hf'⟩
     rw [hKK] at hgr hr'
     obtain ⟨z1,z2,rfl,hz1,hz2⟩:=hgr.parts
     have hx':=(HX.out.kept hU).frp hf' (by omega)
     exact ⟨z1,z2,rfl,⟨hz1,hz2⟩,hgr.low (by omega),hr',hx',(HF.out.then (hU.mono (by omega))).trans (hf'.mono (by omega)),hx'.cell,fun o=>((below_one _ o).cell hx'.lt).trans hx'.cell,by have:=hx'.lt;omega⟩)
    have hgv:∃ ga gn gc,gv=.slice ga gn gc:=own_slice3 hx.2.2.1
    obtain ⟨ga,gn,gc,rfl⟩:=hgv
    have hc2:=hx.cell
    have hfe:wr.frozen? ⟨w.heap.size+1,2,none⟩=false:=by simp [World.frozen?,hx.1]
    have hc3:wr.cell? ⟨w.heap.size,0,none⟩=some (.int .u32 (id:Int)):=(World.cell?_of_block (a:=⟨w.heap.size,0,none⟩) (HF.out.block w.heap.size (by omega) (by omega))).trans HX4.out
    have hc4:wr.cell? ⟨w.heap.size,1,none⟩=some (.slice a fs.length cap):=(World.cell?_of_block (a:=⟨w.heap.size,1,none⟩) (HF.out.block w.heap.size (by omega) (by omega))).trans HX3.out
    have hgl:gs0.length<=100000:=by
     have h1:j<=j*g:=Nat.le_mul_of_pos_right j (by omega)
     omega
    have HNX:Hid (tot-(j+1)*g=left-m/\j+1<=N):=hidden (by
     rw [Nat.add_mul]
     refine ⟨by omega,?_⟩
     exact (HNP.out (by omega) j).2 (by omega))
    clear hx hr hf hm hJN hJl hJ1 hLF hJj hKK hsf HX HF HR
    go_upto_region 6 with fail
    try rw [hmi]
    refine wp_region_noPanic ?_
    go_region_law (first
     | (refine step_append_g (by rfl) _ _ (by rfl) (w.heap.size+1) _ _ z1 z2 gs0.length xs (by rfl) ?_ (by rfl) ?_ hz1 hz2 hgl ?_ ?_;exact own_kept HX5.out.2.2.1 (below_one _ _);exact heap_alloc_new _ _;(rw [World.size_alloc];omega);intro v6 w6 o6 g6 e6;have hx6:=HX5.out.kept (below_one w5 (.cells #[z1,z2] 109));obtain ⟨⟨gv7,xs7,hfil6⟩,hb6,hc6,hc7⟩:=Fil.add (g:=(KK.1,KK.2.1)) hx6.1 hx6.2.1 hx6.2.2.1 hx6.2.2.2 (HG5.out.turn (fun k _ _ _ k2 _ _ _=>(below_one w5 (.cells #[z1,z2] 109)).block k k2)) o6 g6 e6;obtain ⟨va7,vn7,vc7,rfl⟩:=own_slice3 o6;have HFIL:Hid (FilX _ (w.heap.size+1) (w.heap.size+1) id (.slice a fs.length cap) gv7 xs7 (gs0++[(KK.1,KK.2.1)])):=hidden hfil6;have HR6:=hidden ((HR5.out.kept (below_one _ _) HR5.out.lt).kept hb6 (by omega));have HF6:=hidden ((HF5.out.then ((below_one _ _).mono hz5)).trans (Fr.of_below hb6));clear o6 g6 e6 hfil6 hb6 hx6)
     | (go_simp;go_at_call 142;refine (HGC.out _ ?_).mono ?_;exact below_drewN (Below.refl wr.heap.size wr) _;rintro e w5 ⟨z1,z2,rfl,⟨hz1,hz2⟩,hg5,hr5,hx5,hf5,hc5,ha5,hz5⟩;have HG5:=hidden hg5;have HR5:=hidden hr5;have HX5:=hidden hx5;have HF5:=hidden hf5;clear hg5 hr5 hx5 hf5;dsimp only)
     | fail)
    all_goals refine NoPanic.normal ?_
    all_goals
     go_wp2_with fail
     go_roundw
     case rel =>
      refine ⟨j+1,gv7,xs7,?_,HNX.out.2,?_,?_,HF6.out⟩
      ·rw [HNX.out.1]
       congr 1
       omega
      ·rw [HJS1.out];exact HFIL.out
      ·rw [HJS1.out];exact HR6.out
     case measure=>simp [intOf];omega
   ·rw [hfl2] at r2
    have HD:Hid ((J N).2.2.2=true):=hidden (HJS.out N j hjN hfl2)
    have HRF:=hidden (show R3 wr p (J j).2.1 (J j).2.2.1 true from hfl2 ▸ hr)
    have HFF:=hidden ((Fr.of_below HAB.out).trans (hf.mono (Nat.le_succ _)))
    clear hx hr hf hfl2
    go_wp2_with fail
    go_ret2
    rw [HD.out]
    exact ⟨w.heap.size+1,rfl,⟨_,_,HRF.out⟩,(fun h=>by cases h),HFF.out⟩
  ·have hp':¬ (left:Int) > 0:=by omega
   have HD:Hid ((J N).2.2.2=(J j).2.2.2/\((J N).2.2.2=false->j=N)):=hidden (by
    cases hfl2:(J j).2.2.2
    ·have hg1:=HG1.out j hfl2
     have e:j=N:=by
      have h1:=HNP.out (by omega) j
      have h2:=HLF.out
      rcases Nat.lt_or_ge j N with h3 | h3
      ·have:=h1.1 h3
       omega
      ·omega
     subst e
     exact ⟨hfl2,fun _=>rfl⟩
    ·have e:=HJS.out N j hjN hfl2
     exact ⟨e,fun h=>by rw [e] at h;cases h⟩)
   have HFF:=hidden ((Fr.of_below HAB.out).trans (hf.mono (Nat.le_succ _)))
   have HRF:=hidden hr
   have HXF:=hidden (hx.fil.low (Nat.le_succ _))
   clear hx hr hf r2 r3
   go_wp2_with fail
   go_ret2
   refine ⟨w.heap.size+1,rfl,⟨_,_,by rw [HD.out.1];exact HRF.out⟩,fun h=>?_,HFF.out⟩
   have e:=HD.out.2 h
   subst e
   exact HXF.out
end Go.Proofs.YtpljdjmpamjkhaaGreatDoor
