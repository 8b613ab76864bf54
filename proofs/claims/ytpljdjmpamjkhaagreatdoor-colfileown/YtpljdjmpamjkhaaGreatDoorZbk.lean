/- The reader of files: a group. The reader of files: all groups. -/
import Derived.Test.YtpljdjmpamjkhaaGreatDoorZbj
set_option linter.unusedVariables false
set_option linter.unusedSimpArgs false
set_option maxRecDepth 100000
set_option maxHeartbeats 4000000
namespace Go.Proofs.YtpljdjmpamjkhaaGreatDoor
open Go.RowKit Go.Lib
theorem info79A:(Tryz.prog.info? 79).map (fun i=>(i.zero,i.size,i.bytes))=some (some (.slice none 0 0),1,24):=by kernel_rfl
theorem psh_length (rs:List Row) (l:List Cl):(psh rs l).length=rs.length:=by simp [psh]
theorem psh_get {rs:List Row} {l:List Cl} {i:Nat} (h:i<rs.length):(psh rs l)[i]'(by rw [psh_length];exact h)=rs[i]++(l[i]?).toList:=by simp [psh]
theorem psh_nil (rs:List Row):psh rs []=rs:=by
 apply List.ext_getElem (psh_length _ _)
 intro i h1 h2
 rw [psh_get h2]
 simp
theorem psh_step {rs:List Row} {l:List Cl} {j:Nat} (h1:j<rs.length) (h2:j<l.length):(psh rs (l.take j)).set j ((psh rs (l.take j))[j]'(by rw [psh_length];exact h1)++[l[j]])=psh rs (l.take (j+1)):=by
 apply List.ext_getElem (by simp [psh_length])
 intro i h3 h4
 rw [psh_length] at h4
 rw [psh_get h4]
 by_cases e:i=j
 ·subst e
  rw [List.getElem_set_self]
  have e:(psh rs (l.take i))[i]'(by rw [psh_length];exact h1)=rs[i]:=by
   rw [psh_get (l:=l.take i) h1]
   simp [List.getElem?_take]
  rw [e]
  simp [List.getElem?_take,h2]
 ·rw [List.getElem_set_ne (Ne.symm e),psh_get h4]
  congr 2
  simp only [List.getElem?_take]
  by_cases h5:i<j
  ·rw [if_pos h5,if_pos (by omega)]
  ·rw [if_neg h5,if_neg (by omega)]
theorem colR_fine {k n:Nat} {s:S3} (hk:1<=k/\k<=3) (hn:n<=64) (hb:Bs s.1):(∀ x∈(colR k n s).1,Fine x)/\(colR k n s).1.length<=n:=by
 unfold colR
 simp only
 cases h:readC k (s.1.take (valW 0 s.1.length s.2.1)) n with
 | none=>exact ⟨fun x hx=>by simp at hx,by simp⟩
 | some l =>
  obtain ⟨h1,h2,_⟩:=(readC_iff hk (by omega) (hb.take _)).1 h
  exact ⟨fun x hx=>(h1.2.2 x hx).fine,by simp [h2]⟩
theorem colR_len (k n:Nat) (s:S3):(colR k n s).2.1.length<=s.1.length:=by
 unfold colR
 simp only [List.length_drop]
 omega
theorem staR_len (l:List Cl) (s:S3):(staR l s).1=s.1:=by
 unfold staR
 split<;>rfl
theorem grK_rows {fs:List Fd} {n:Nat} {s:S3}:∀ {k:Nat},k<=fs.length->(grK fs n s k).1.length=n/\(grK fs n s k).2.1.length=k/\(grK fs n s k).2.2.1.length<=s.1.length/\∀ r∈(grK fs n s k).1,r.length<=k:=by
 intro k
 induction k with
 | zero=>exact fun _=>⟨by simp [grK_zero],rfl,Nat.le_refl _,fun r hr=>by rw [grK_zero] at hr;simp only [List.mem_replicate] at hr;rw [hr.2];exact Nat.le_refl _⟩
 | succ k ih =>
  intro h
  obtain ⟨h1,h2,h3,h4⟩:=ih (by omega)
  rw [grK_succ (by omega)]
  unfold grS
  refine ⟨by simp only [psh_length];exact h1,by simp [h2],?_,?_⟩
  ·simp only
   rw [staR_len]
   exact Nat.le_trans (colR_len _ _ _) h3
  ·simp only
   intro r hr
   obtain ⟨i,hi,rfl⟩:=List.getElem_of_mem hr
   have hi':=hi
   rw [psh_length] at hi'
   rw [psh_get hi',List.length_append]
   have:=h4 _ (List.getElem_mem hi')
   have h5:∀ o:Option Cl,o.toList.length<=1:=fun o=>by cases o<;>simp
   have:=h5 ((colR fs[k].2.2.1 n (grK fs n s k).2.2).1[i]?)
   omega
theorem own_slice3 {W:World} {B:Nat} {e:TypeId} {size n:Nat} {v:Value} {xs:List Value} (h:W.ownsRow B e size v n xs):∃ a m c,v=.slice a m c:=by
 rcases h.2 with ⟨h,_⟩ | ⟨_,_,_,h,_⟩
 ·exact ⟨_,_,_,h⟩
 ·exact ⟨_,_,_,h⟩
theorem step_append_t {w:World} {ops:Array Oper} {o:Oper} {a:Act} {K:Act->World->Prop} {Q:Exit->Act->World->Prop} {E:Prop} (hgd:o.guard=none) (s x:Operand)
  (ho:o.op=.call { callee:=.builtin .append,args:=#[s,x],argTypes:=#[107,107] })
  (base:Nat) (v:Value) (g:Nat) (z:Stt) (l0:List Stt) (hs:a.eval s=v) (hown:w.ownsRow base 54 10 v l0.length (l0.flatMap celS)) (hx:a.eval x=.slice (some ⟨g,0,none⟩) 1 1)
  (hc:Stb w g z) (hbytes:l0.length<=100000) (hbase:base<=w.heap.size)
  (h:∀ v' w',w'.ownsRow base 54 10 v' (l0.length+1) (l0.flatMap celS++celS z)->w.grownBy w' v.ownBlock->(v'.ownBlock=v.ownBlock∨v'.ownBlock=some w.heap.size)->K (a.put o.dst v') w') :
  if Region.wanted o (yielded ops a.tmps)=true then Oper.wp Tryz.prog o a w K Q else E:=by
 obtain ⟨i0,hi,hz0,hz1',hz2⟩:=info_parts info54
 refine step_append_ownG hgd s x 107 ho base 54 i0 (.agg #[.int .i64 0,.int .i64 0,.bool false,.bool false,.int .u8 0,.int .i64 0,.string ⟨#[]⟩,.int .u8 0,.int .i64 0,.string ⟨#[]⟩]) 10 88 Tryz.underlying107 hi hz0 hz1' hz2 rfl (by decide) v l0.length (l0.flatMap celS) hs hown ⟨g,0,none⟩ 1 1 (celS z) hx rfl ?_ (fun u hu=>by
  unfold celS at hu
  simp only [List.mem_cons,List.not_mem_nil,or_false] at hu
  rcases hu with rfl | rfl | rfl | rfl | rfl | rfl | rfl | rfl | rfl | rfl<;>rfl) (by unfold maxLen;omega) (by omega) hbase h
 intro j u hu
 rw [add0]
 unfold Stb at hc
 rw [cell_block hc]
 unfold celS at hu
 simpa using hu
theorem step_append_c {w:World} {ops:Array Oper} {o:Oper} {a:Act} {K:Act->World->Prop} {Q:Exit->Act->World->Prop} {E:Prop} (hgd:o.guard=none) (s x:Operand)
  (ho:o.op=.call { callee:=.builtin .append,args:=#[s,x],argTypes:=#[79,79] })
  (base:Nat) (v:Value) (g:Nat) (z:Cl) (l0:List Cl) (hs:a.eval s=v) (hown:OwnV w base v l0) (hx:a.eval x=.slice (some ⟨g,0,none⟩) 1 1)
  (hc:w.cell? ⟨g,0,none⟩=some (valC z)) (hbytes:l0.length<=100000) (hbase:base<=w.heap.size)
  (h:∀ v' w',OwnV w' base v' (l0++[z])->w.grownBy w' v.ownBlock->(v'.ownBlock=v.ownBlock∨v'.ownBlock=some w.heap.size)->K (a.put o.dst v') w') :
  if Region.wanted o (yielded ops a.tmps)=true then Oper.wp Tryz.prog o a w K Q else E:=by
 obtain ⟨i0,hi,hz0,hz1',hz2⟩:=info_parts info78
 have hvc:=vvals_length l0
 refine step_append_ownG hgd s x 79 ho base 78 i0 .nilIface 1 16 Tryz.underlying79 hi hz0 hz1' hz2 rfl (by decide) v l0.length (vvals l0) hs hown ⟨g,0,none⟩ 1 1 [valC z] hx rfl ?_ (fun u hu=>by
  simp only [List.mem_cons,List.not_mem_nil,or_false] at hu
  subst hu
  rcases valC_two z with e | ⟨_,_,e⟩<;>rw [e]<;>rfl) (by unfold maxLen;omega) (by omega) hbase ?_
 ·intro j u hu
  cases j with
  | zero =>
   rw [add0]
   simpa [hc] using hu
  | succ j=>simp at hu
 ·intro v' w' o1 g1 e1
  refine h v' w' ?_ g1 e1
  unfold OwnV
  rw [List.length_append]
  have:vvals (l0++[z])=vvals l0++[valC z]:=by simp [vvals]
  rw [this]
  exact o1
def Gro (W:World) (B:Nat) (v:Value) (rows:List Row) (sts:List Stt):Prop :=
 ∃ R rvs vs,v=.agg #[.slice (some ⟨R,0,none⟩) rows.length rows.length,vs]/\W.ownsRow B 79 1 (.slice (some ⟨R,0,none⟩) rows.length rows.length) rows.length rvs /\
  (∀ i (h:i<rows.length),∃ rv,rvs[i]?=some rv/\OwnV W B rv rows[i])/\W.ownsRow B 54 10 vs sts.length (sts.flatMap celS)
theorem Grm.gro {W:World} {B q R n:Nat} {rvs:List Value} {rows:List Row} {vs:Value} {sts:List Stt} (h:Grm W B q R n rvs rows vs sts):Gro W B (.agg #[.slice (some ⟨R,0,none⟩) n n,vs]) rows sts:=by
 obtain ⟨_,_,h1,h2,h3,_,h4⟩:=h
 subst h2
 exact ⟨R,rvs,vs,rfl,h1,h3,h4⟩
theorem Sf.keptW {W W':World} {B:Nat} {v:Value} {l:List Fd} (h:Sf W v l) (hv:∀ k,v.ownBlock=some k->k<B) (hb:Below B W W'):Sf W' v l:=by
 obtain ⟨a,cap,rfl,h2,h3,h0,h4⟩:=h
 refine ⟨a,cap,rfl,h2,h3,h0,fun h0=>?_⟩
 obtain ⟨b,off,rfl,h6,h7⟩:=h4 h0
 have hb':b<B:=hv b rfl
 exact ⟨b,off,rfl,Nat.lt_of_lt_of_le h6 hb.size,fun j x hj=>(hb.cell (p:=⟨b,off+j,none⟩) hb').trans (h7 j x hj)⟩
theorem r3group_any {w:World} {p:Nat} {c f:List Nat} {fl:Bool} (h:R3 w p c f fl) {fv:Value} {fs:List Fd} (hs:Sf w fv fs) (hw:∀ i,fv.ownBlock=some i->i<p) (hk:∀ x∈fs,1<=x.2.2.1/\x.2.2.1<=3) (id n:Nat) (hn:1<=n/\n<=64) (hfl:fs.length<=8) (hcl:c.length<=100000000) :
  Calls Tryz.prog 142 #[.pointer (some ⟨p,0,none⟩),.agg #[.int .u32 (id:Int),fv],.int .i64 (n:Int)] w fun r w'=>(∃ v,r=.returned v/\Gro w' w.heap.size v (grK fs n (c,f,fl) fs.length).1 (grK fs n (c,f,fl) fs.length).2.1)/\R3 w' p (grK fs n (c,f,fl) fs.length).2.2.1 (grK fs n (c,f,fl) fs.length).2.2.2.1 (grK fs n (c,f,fl) fs.length).2.2.2.2/\Fr p w.heap.size w w':=by
 obtain ⟨i0,hi,hz0,hz1',hz2⟩:=info_parts info79A
 have hlt:=h.lt
 have HGR:=hidden (fun k (hk:k<=fs.length)=>grK_rows (fs:=fs) (n:=n) (s:=(c,f,fl)) hk)
 have HGS:=hidden (fun k (hk:k<fs.length)=>grK_succ hk n (c,f,fl))
 have HG0:=hidden (grK_zero fs n (c,f,fl))
 obtain ⟨G,hG⟩:∃ G,grK fs n (c,f,fl)=G:=⟨_,rfl⟩
 rw [hG] at HGR HGS HG0 ⊢
 clear hG
 obtain ⟨a,cap,rfl,hcap,hcm⟩:=hs.form
 have hb1:=below_one w (.cells #[.int .u32 (id:Int),.slice a fs.length cap] 25)
 have hb2:=below_one (w.alloc (.cells #[.int .u32 (id:Int),.slice a fs.length cap] 25)) (.cells #[.slice none 0 0,.slice none 0 0] 109)
 obtain ⟨x0,x1⟩:=cell_new2 w (.int .u32 (id:Int)) (.slice a fs.length cap) 25
 have hA0:w.heap.size<(w.alloc (.cells #[.int .u32 (id:Int),.slice a fs.length cap] 25)).heap.size:=by rw [World.size_alloc];omega
 have sA:((w.alloc (.cells #[.int .u32 (id:Int),.slice a fs.length cap] 25)).alloc (.cells #[.slice none 0 0,.slice none 0 0] 109)).heap.size=w.heap.size+2:=by rw [World.size_alloc,World.size_alloc]
 have x2:((w.alloc (.cells #[.int .u32 (id:Int),.slice a fs.length cap] 25)).alloc (.cells #[.slice none 0 0,.slice none 0 0] 109)).heap[w.heap.size+1]?=some (.cells #[.slice none 0 0,.slice none 0 0] 109 (0,0)):=by
  have:=heap_alloc_new (w.alloc (.cells #[.int .u32 (id:Int),.slice a fs.length cap] 25)) (.cells #[.slice none 0 0,.slice none 0 0] 109)
  rwa [World.size_alloc] at this
 have x3:((w.alloc (.cells #[.int .u32 (id:Int),.slice a fs.length cap] 25)).alloc (.cells #[.slice none 0 0,.slice none 0 0] 109)).cell? ⟨w.heap.size,1,none⟩=some (.slice a fs.length cap):=(hb2.cell (p:=⟨w.heap.size,1,none⟩) hA0).trans x1
 have hAb:Below w.heap.size w ((w.alloc (.cells #[.int .u32 (id:Int),.slice a fs.length cap] 25)).alloc (.cells #[.slice none 0 0,.slice none 0 0] 109)):=below_then hb1 hb2
 have HR:=hidden (h.kept hAb hlt)
 have HS:=hidden (hs.keptW hw (hAb.mono (by omega)))
 have HAB:=hidden hAb
 have HSA:=hidden sA
 have HX2:=hidden x2
 clear h hs hb1 hb2 x0 x1 hAb sA x2 hA0
 generalize hA:(w.alloc (.cells #[.int .u32 (id:Int),.slice a fs.length cap] 25)).alloc (.cells #[.slice none 0 0,.slice none 0 0] 109)=A at *
 go_enter Tryz.func142,Tryz.ntmps142
 go_wp2_with (first | (refine wpList_make_full _ rfl _ _ 34 rfl A.heap.size 79 i0 (.slice none 0 0) 1 Tryz.underlying34 hi hz0 hz1' .i64 .i64 _ _ n rfl rfl ?m1 ?m2 ?m3 ?m4 ?m5 ?_))
 case m1=>rfl
 case m2=>rfl
 case m3=>first | omega | (rw [hz2];omega)
 case m4=>unfold maxLen;omega
 try (case m5=>omega)
 intro w4 ho4 hg4
 have hb4:Below A.heap.size A w4:=(Below.refl _ _).grown hg4 (Nat.le_refl _) (fun k hk=>by cases hk)
 have hlt4:A.heap.size<w4.heap.size:=(ho4.lt A.heap.size rfl).2
 have ho4':w4.ownsRow A.heap.size 79 1 (.slice (some ⟨A.heap.size,0,none⟩) n n) n (List.replicate n (.slice none 0 0)):=by
  rw [← toList_madeCells_one]
  simpa using ho4
 have hb5:=below_one w4 (.cells #[.slice (some ⟨A.heap.size,0,none⟩) n n,.slice none 0 0] 109)
 have hG5:Grm (w4.alloc (.cells #[.slice (some ⟨A.heap.size,0,none⟩) n n,.slice none 0 0] 109)) A.heap.size w4.heap.size A.heap.size n (List.replicate n (.slice none 0 0)) (List.replicate n []) (.slice none 0 0) [] :=
  ⟨heap_alloc_new w4 _,hb4.size,own_kept ho4' hb5,List.length_replicate,fun i hi=>⟨.slice none 0 0,by simp at hi;simp [hi],by simp only [List.getElem_replicate];exact OwnV.nil _ _⟩,(fun i j ri rj b hij hri hrj hb=>by
   rw [List.getElem?_replicate] at hri
   split at hri
   ·cases hri
    cases hb
   ·cases hri),World.ownsRow_nil _ _ _ _⟩
 have hab:Below A.heap.size A (w4.alloc (.cells #[.slice (some ⟨A.heap.size,0,none⟩) n n,.slice none 0 0] 109)):=below_then hb4 hb5
 have HG5:=hidden hG5
 have HR5:=hidden (HR.out.kept hab HR.out.lt)
 have HS5:=hidden (HS.out.kept hab)
 have HB5:=hidden hab
 have hc5:=(hab.cell (p:=⟨w.heap.size,1,none⟩) (by rw [HSA.out];simp)).trans x3
 have hqA:A.heap.size<w4.heap.size:=hlt4
 clear ho4 hg4 hb4 ho4' hb5 hG5 hab hA x3
 go_upto_region 2 with fail
 generalize w4.alloc (.cells #[.slice (some ⟨A.heap.size,0,none⟩) n n,.slice none 0 0] 109)=W5 at *
 have HK:=hidden hk
 have hcl5:∃ u,W5.cell? ⟨w.heap.size,1,none⟩=some u:=⟨_,hc5⟩
 clear hk hcl5
 have HZQ:=hidden hqA
 generalize w4.heap.size=q at *
 clear hlt4
 have hap:p<A.heap.size:=by have:=HSA.out;omega
 go_wp2_with fail
 go_loopw [19] (fun i wr=>∃ (k:Nat) (rvs:List Value) (vs:Value),i=.int .i64 (k:Int)/\k<=fs.length/\Grm wr A.heap.size q A.heap.size n rvs (G k).1 vs (G k).2.1/\R3 wr p (G k).2.2.1 (G k).2.2.2.1 (G k).2.2.2.2/\Fr p A.heap.size A wr) (fun i _=>fs.length-(intOf i).toNat)
 case atStart =>
  refine ⟨0,List.replicate n (.slice none 0 0),.slice none 0 0,rfl,by omega,?_,?_,Fr.of_below HB5.out⟩
  ·rw [HG0.out];exact HG5.out
  ·rw [HG0.out];exact HR5.out
 case round =>
  obtain ⟨k,rvs,vs,rfl,hk,hg,hr,hf⟩:=hrel
  have HG:=hidden hg
  have HR:=hidden hr
  have HF:=hidden hf
  have hvs:∃ va vn vc,vs=.slice va vn vc:=by
   rcases hg.st.2 with ⟨h,_⟩ | ⟨_,_,_,h,_⟩
   ·exact ⟨_,_,_,h⟩
   ·exact ⟨_,_,_,h⟩
  obtain ⟨va,vn,vc,rfl⟩:=hvs
  obtain ⟨y0,y1,y2,y3⟩:=hg.cells
  have hz3:=hf.size
  have hqr:=hg.lt
  have HRW:=hidden (HGR.out k hk)
  clear hg hr
  by_cases hlt2:k<fs.length
  ·obtain ⟨b,off,rfl,hb,z0,z1,z2,z3⟩:=(HS.out.keptW hw (hf.below (Nat.le_refl p) (by omega))).at hlt2
   have HGK:=hidden (HGS.out k hlt2)
   have HKK:=hidden (HK.out fs[k] (List.getElem_mem hlt2))
   have HCF:=hidden (colR_fine (n:=n) (s:=(G k).2.2) HKK.out hn.2 HR.out.bs.1)
   have HCL:Hid ((G k).2.2.1.length<=100000000):=hidden (Nat.le_trans HRW.out.2.2.1 hcl)
   have HCA:=hidden (fun (U:World) (hU:R3 U p (G k).2.2.1 (G k).2.2.2.1 (G k).2.2.2.2)=>r3col_any hU fs[k].2.2.1 n HKK.out hn.2 HCL.out)
   have hbz:=below_one wr (.cells #[.int .u32 (fs[k].1:Int),.string fs[k].2.1,.int .u8 (fs[k].2.2.1:Int),.bool fs[k].2.2.2] 81)
   have HRZ:=hidden (HR.out.kept hbz HR.out.lt)
   have HGZ:=hidden (HG.out.kept hbz)
   have HFZ:=hidden (HF.out.then (hbz.mono hz3))
   have hlt2':(k:Int)<(fs.length:Int):=by omega
   clear hf hbz
   generalize fs[k]=fk at *
   obtain ⟨f1,f2,f3,f4⟩:=fk
   simp only at *
   have hbZ:∀ o,(wr.alloc o).heap.size=wr.heap.size+1:=fun o=>World.size_alloc _ _
   go_wp2_with fail
   generalize wr.alloc (.cells #[.int .u32 (f1:Int),.string f2,.int .u8 (f3:Int),.bool f4] 81)=Z at *
   refine (HCA.out _ HRZ.out).mono ?_
   rintro e w1 ⟨v,rfl,ho1,hr1,hf1⟩
   have hgk:G (k+1)=(psh (G k).1 (colR f3 n (G k).2.2).1,(G k).2.1++[statM (colR f3 n (G k).2.2).1],staR (colR f3 n (G k).2.2).1 (colR f3 n (G k).2.2).2):=HGK.out
   generalize colR f3 n (G k).2.2=cr at *
   obtain ⟨l,c1,b1,fl1⟩:=cr
   simp only at *
   have HGN:=hidden hgk
   generalize G k=gk at *
   obtain ⟨rows,sts,s0⟩:=gk
   simp only at *
   have HG1:=hidden (HGZ.out.frp hf1 hap)
   have HF1:=hidden (HFZ.out.trans (hf1.mono HFZ.out.size))
   have hz1:=HFZ.out.size
   have HO1:=hidden (OwnV.of_le ho1 hz1)
   have HR1:=hidden hr1
   have HD1:Hid (∀ (i:Nat) (ri:Value),rvs[i]?=some ri->∀ b,ri.ownBlock=some b->v.ownBlock≠some b):=hidden (fun i ri hi b hb e=>by
    have hl:=(List.getElem?_eq_some_iff.1 hi).1
    have h1:=HGZ.out.row.1
    have h2:=HGZ.out.len
    obtain ⟨rv,e1,e2⟩:=HGZ.out.own i (by omega)
    rw [hi] at e1
    cases e1
    have:=(ownG_block e2 hb).2.1
    have:=(ownG_block ho1 e).1
    omega)
   obtain ⟨va1,vn1,vc1,rfl⟩:∃ va vn vc,v=.slice va vn vc:=by
    rcases ho1.2 with ⟨h,_⟩ | ⟨_,_,_,h,_⟩
    ·exact ⟨_,_,_,h⟩
    ·exact ⟨_,_,_,h⟩
   obtain ⟨st,hst⟩:∃ st,statM l=st:=⟨_,rfl⟩
   obtain ⟨S,hS⟩:∃ S,staR l (c1,b1,fl1)=S:=⟨_,rfl⟩
   have HST:Hid (∀ U:World,Below w1.heap.size w1 U->Calls Tryz.prog 182 #[.pointer (some ⟨p,0,none⟩),.slice va1 vn1 vc1] U fun e w'=>e=.returned (.agg #[.int .i64 st.rows,.int .i64 st.nulls,.bool st.some,.bool st.high,.int .u8 (st.lo.1:Int),.int .i64 st.lo.2.1,.string (bytesT st.lo.2.2),.int .u8 (st.hi.1:Int),.int .i64 st.hi.2.1,.string (bytesT st.hi.2.2)]) /\
     R3 w' p S.1 S.2.1 S.2.2/\Grm w' A.heap.size q A.heap.size n rvs rows (.slice va vn vc) sts/\Fr p A.heap.size A w'/\OwnV w' A.heap.size (.slice va1 vn1 vc1) l/\w'.cell? ⟨q,1,none⟩=some (.slice va vn vc)/\A.heap.size<=w'.heap.size/\∀ o,(w'.alloc o).cell? ⟨q,1,none⟩=some (.slice va vn vc)):=hidden (fun U hU=>by
    refine (r3stats_any (HR1.out.kept hU HR1.out.lt) (HO1.out.sv.kept hU) HCF.out.1 (by have:=HCF.out.2;omega)).mono ?_
    rintro e w' ⟨rfl,hr,hf⟩
    rw [hS] at hr
    rw [hst]
    have hzU:=hU.size
    have hfa:=(HF1.out.then (hU.mono HF1.out.size)).trans (hf.mono (Nat.le_trans HF1.out.size hzU))
    have hg:=(HG1.out.kept hU).frp hf hap
    exact ⟨rfl,hr,hg,hfa,Fr.own hf (HO1.out.kept hU) hap,hg.cells.2.1,hfa.size,fun o=>((below_one _ o).cell hg.lt).trans hg.cells.2.1⟩)
   rw [hst,hS] at HGN
   obtain ⟨y0,y1,y2,y3⟩:=HG1.out.cells
   have hz4:=HF1.out.size
   have hrl:sts.length<=100000:=by have:=HRW.out.2.1;omega
   clear hgk HGK ho1 hr1 hf1 HCA HRZ HGZ HFZ HG HR HF z0 z1 z2 z3 hst hS
   go_upto_region 6 with fail
   go_cut [] from 58 (fun wx=>∃ va6 vn6 vc6,Grm wx A.heap.size q A.heap.size n rvs rows (.slice va6 vn6 vc6) (sts++[st])/\R3 wx p S.1 S.2.1 S.2.2/\Fr p A.heap.size A wx/\OwnV wx A.heap.size (.slice va1 vn1 vc1) l)
   case first =>
    refine wp_region_noPanic ?_
    go_region_law (first
     | (refine step_append_t (by rfl) _ _ (by rfl) A.heap.size _ _ st sts (by rfl) ?_ (by rfl) ?_ hrl ?_ ?_;exact own_kept HG5.out.st (below_one _ _);exact Stb.new _ st;(rw [World.size_alloc];omega);intro v6 w6 o6 g6 e6;obtain ⟨hg6,hb6,⟨hc6,hc7⟩,hk6⟩:=(HG5.out.kept (below_one _ _)).addStat o6 g6 e6;obtain ⟨va6,vn6,vc6,rfl⟩:=own_slice3 o6;have HG6:=hidden hg6;have HR6:=hidden ((HR5.out.kept (below_one _ _) HR5.out.lt).kept hb6 hap);have HF6:=hidden ((HF5.out.then ((below_one _ _).mono HF5.out.size)).trans (Fr.of_below hb6));have HV6:=hidden (hk6 _ _ (OwnV.kept HV5.out (below_one _ _)));clear o6 g6 e6 hg6 hb6 hk6)
     | (go_simp;go_at_call 182;refine (HST.out _ ?_).mono ?_;exact below_drewN (Below.refl w1.heap.size w1) _;rintro e w5 ⟨rfl,hr5,hg5,hf5,hv5,hc5,hz5,ha5⟩;have HR5:=hidden hr5;have HG5:=hidden hg5;have HF5:=hidden hf5;have HV5:=hidden hv5;clear hr5 hg5 hf5 hv5;dsimp only)
     | fail)
    all_goals refine NoPanic.normal ?_
    all_goals go_wp2_with fail
    all_goals go_meet
    all_goals exact ⟨_,_,_,HG6.out,HR6.out,HF6.out,HV6.out⟩
   case rest =>
   obtain ⟨va6,vn6,vc6,hg6,hr6,hf6,hv6⟩:=hcut
   have HD6:=hidden (fun (i:Nat) (ri:Value) (hi:rvs[i]?=some ri)=>HD1.out i ri hi)
   obtain ⟨aq,cq,hvq,hq1,hq2⟩:=hv6.sv.form1
   rw [vvals_length] at hvq hq1
   cases hvq
   have HG6:=hidden hg6
   have HR6:=hidden hr6
   have HF6:=hidden hf6
   have HV6:=hidden hv6
   have hrn:rows.length=n:=HRW.out.1
   have hln:l.length<=n:=HCF.out.2
   have hq2':vc1<=9223372036854775807:=by unfold maxLen at hq2;omega
   clear hg6 hr6 hf6 hv6 HG1 HR1 HF1 HO1 HD1 HST y0 y1 y2 y3 hq2
   go_wp2_with fail
   go_loopw [38] (fun i wx=>∃ (j:Nat) (rvs2:List Value),i=.int .i64 (j:Int)/\j<=l.length/\Grm wx A.heap.size q A.heap.size n rvs2 (psh rows (l.take j)) (.slice va6 vn6 vc6) (sts++[st])/\R3 wx p S.1 S.2.1 S.2.2/\Fr p A.heap.size A wx/\OwnV wx A.heap.size (.slice va1 l.length vc1) l/\∀ i,j<=i->∀ ri:Value,rvs2[i]?=some ri->∀ b,ri.ownBlock=some b->(Value.slice va1 l.length vc1).ownBlock≠some b) (fun i _=>l.length-(intOf i).toNat)
   case atStart =>
    refine ⟨0,rvs,rfl,by omega,?_,HR6.out,HF6.out,HV6.out,fun i _ ri hi=>HD6.out i ri hi⟩
    rw [List.take_zero,psh_nil]
    exact HG6.out
   case round =>
    obtain ⟨j,rvs2,rfl,hj,hg,hr,hf,hv,hd⟩:=hrel
    have HG:=hidden hg
    have HR:=hidden hr
    have HF:=hidden hf
    have HV:=hidden hv
    have HD:=hidden hd
    obtain ⟨y0,y1,y2,y3⟩:=hg.cells
    have hqx:=hg.lt
    have hax:=hf.size
    by_cases hlt3:j<l.length
    ·have hjr:j<(psh rows (l.take j)).length:=by rw [psh_length];omega
     obtain ⟨rv,hrv,how⟩:=hg.own j hjr
     obtain ⟨b2,off2,hq5,hb2,hcs⟩:=hv.sv.at1 (vvals_get hlt3)
     obtain ⟨ra,rn,rc,rfl⟩:=own_slice3 how
     have hcr:=(hg.row.cellAt j (by omega)).trans hrv
     have hfr:=hg.row.frozenAt j
     have HBD:Hid (∀ o,Below wr.heap.size wr (wr.alloc o).drew):=hidden (fun o=>(below_one wr o).drew)
     have hal:∀ o,(wr.alloc o).cell? ⟨q,0,none⟩=some (.slice (some ⟨A.heap.size,0,none⟩) n n):=fun o=>((below_one wr o).cell hqx).trans y0
     have hRl:A.heap.size<wr.heap.size:=(ownG_block (k:=A.heap.size) hg.row rfl).2.1
     have har:∀ o,(wr.alloc o).cell? ⟨A.heap.size,j,none⟩=some (.slice ra rn rc):=fun o=>((below_one wr o).cell hRl).trans hcr
     have HOW:=hidden how
     have HPS:=hidden (psh_step (rs:=rows) (l:=l) (j:=j) (by omega) hlt3)
     have HRV:=hidden hrv
     have hjl:(j:Int)<(l.length:Int):=by omega
     have hjn:(j:Int)<(n:Int):=by omega
     have hbt:((psh rows (l.take j))[j]).length<=100000:=by
      rw [psh_get (by omega),List.length_append]
      have h5:∀ o:Option Cl,o.toList.length<=1:=fun o=>by cases o<;>simp
      have:=h5 ((l.take j)[j]?)
      have:=HRW.out.2.2.2 _ (List.getElem_mem (show j<rows.length by omega))
      omega
     clear hg hr hf hv hd how hrv y1 y3
     generalize hrw:(psh rows (l.take j))[j]=row at *
     have HRE:=hidden hrw
     clear hrw
     rcases valC_two l[j] with h0 | ⟨tt,uu,h0⟩
     all_goals
      rw [h0] at hcs
      have H0:=hidden h0
      clear h0
      generalize hxj:l[j]=xj at *
      have HXJ:=hidden hxj
      clear hxj
      subst hq5
      go_upto_region 10 with fail
      refine wp_region_noPanic ?_
      go_region_law (first
       | (refine step_append_c (by rfl) _ _ (by rfl) A.heap.size _ _ xj row (by rfl) ?_ (by rfl) ?_ hbt ?_ ?_;exact OwnV.kept HOW.out (HBD.out _);(rw [H0.out];show (wr.alloc _).cell? _=_;rw [cell_block (heap_alloc_new _ _)];rfl);(show A.heap.size<=(wr.alloc _).heap.size;rw [World.size_alloc];omega);intro v6 w6 o6 g6 e6;have o6':OwnV w6 A.heap.size v6 ((psh rows (l.take j))[j]++[xj]):=(by rw [HRE.out];exact o6);obtain ⟨hg6,hb6,⟨hc6,hc7,hc8⟩,hk6⟩:=(HG.out.kept (HBD.out _)).addCell hjr HRV.out o6' g6 e6;obtain ⟨va7,vn7,vc7,rfl⟩:=own_slice3 o6;have HG6:=hidden hg6;have HR6:=hidden ((HR.out.kept (HBD.out _) HR.out.lt).kept hb6 hap);have HF6:=hidden ((HF.out.then ((HBD.out _).mono HF.out.size)).trans (Fr.of_below hb6));have HV6:=hidden (hk6 _ _ (OwnV.kept HV.out (HBD.out _)) (fun b hb=>HD.out j (Nat.le_refl j) _ HRV.out b hb));clear o6 o6' g6 e6 hg6 hb6 hk6)
       | fail)
     all_goals
      refine NoPanic.normal ?_
      go_wp2_with fail
      go_roundw
      case rel =>
       refine ⟨j+1,rvs2.set j (.slice va7 vn7 vc7),by go_num,by omega,?_,HR6.out,HF6.out,HV6.out,fun i hi ri hri=>?_⟩
       ·rw [← HPS.out,← HRE.out]
        exact HG6.out
       ·rw [List.getElem?_set_ne (by omega)] at hri
        exact HD.out i (by omega) ri hri
      case measure=>simp [intOf];omega
    ·obtain rfl:j=l.length:=by omega
     have hge:¬ ((l.length:Nat):Int)<(l.length:Int):=by omega
     clear hg hr hf hv hd y0 y1 y2 y3
     have HGG:=hidden HG.out
     rw [List.take_length] at HGG
     go_wp2_with fail
     go_roundw
     case rel =>
      refine ⟨k+1,rvs2,.slice va6 vn6 vc6,by go_num,by omega,?_,?_,HF.out⟩
      ·rw [HGN.out];exact HGG.out
      ·rw [HGN.out];exact HR.out
     case measure=>simp [intOf];omega
  ·obtain rfl:k=fs.length:=by omega
   have hge:¬ ((fs.length:Nat):Int)<(fs.length:Int):=by omega
   have hsa:=HSA.out
   have hne1:¬ w.heap.size+1=p:=by omega
   have hT:wr.heap[w.heap.size+1]?=some (.cells #[.slice none 0 0,.slice none 0 0] 109 (0,0)):=(hf.block _ (by omega) hne1).trans HX2.out
   have t0:wr.cell? ⟨w.heap.size+1,0,none⟩=some (.slice none 0 0):=by rw [cell_block hT];rfl
   have t1:wr.cell? ⟨w.heap.size+1,1,none⟩=some (.slice none 0 0):=by rw [cell_block hT];rfl
   have t2:wr.frozen? ⟨w.heap.size+1,0,none⟩=false:=by simp [World.frozen?,hT]
   have t3:wr.frozen? ⟨w.heap.size+1,1,none⟩=false:=by simp [World.frozen?,hT]
   have hqa:A.heap.size<=q:=HG.out.hq
   have hne2:¬ q=w.heap.size+1:=by omega
   have hne3:¬ w.heap.size+1=q:=by omega
   have hfa:Fr p w.heap.size w wr:=(Fr.of_below HAB.out).trans (hf.mono (by omega))
   have hbs:=setB' (setB' (Below.refl w.heap.size wr) (show w.heap.size<=w.heap.size+1 by omega) 0 (.slice (some ⟨A.heap.size,0,none⟩) n n)) (show w.heap.size<=w.heap.size+1 by omega) 1 (.slice va vn vc)
   have HRF:=hidden (HR.out.kept hbs hlt)
   have HFF:=hidden (hfa.trans (Fr.of_below hbs))
   have HGF:=hidden ((HG.out.turn (W':=(wr.setCell ⟨w.heap.size+1,0,none⟩ (.slice (some ⟨A.heap.size,0,none⟩) n n)).setCell ⟨w.heap.size+1,1,none⟩ (.slice va vn vc)) (fun j hj _=>by
    rw [Below.heap_setCell _ _ _ _ (by simp;omega),Below.heap_setCell _ _ _ _ (by simp;omega)])).low (show w.heap.size<=A.heap.size by omega)).gro
   clear hf hT hfa hbs HX2 hsa
   go_wp2_with fail
   refine bodyPost_ret (v:=.agg #[.slice (some ⟨A.heap.size,0,none⟩) n n,.slice va vn vc]) (by simp [results,Tryz.results142,go_sem,t0,t1,t2,t3,hne1,hne2,hne3]) rfl ⟨⟨_,rfl,HGF.out⟩,HRF.out,HFF.out⟩
end Go.Proofs.YtpljdjmpamjkhaaGreatDoor
set_option linter.unusedVariables false
set_option linter.unusedSimpArgs false
namespace Go.Proofs.YtpljdjmpamjkhaaGreatDoor
open Go.RowKit Go.Lib
theorem info109A:(Tryz.prog.info? 109).map (fun i=>(i.zero,i.size,i.bytes))=some (some (.agg #[.slice none 0 0,.slice none 0 0]),2,48):=by kernel_rfl
theorem step_append_g {w:World} {ops:Array Oper} {o:Oper} {a:Act} {K:Act->World->Prop} {Q:Exit->Act->World->Prop} {E:Prop} (hgd:o.guard=none) (s x:Operand)
  (ho:o.op=.call { callee:=.builtin .append,args:=#[s,x],argTypes:=#[103,103] })
  (base:Nat) (v:Value) (g:Nat) (z1 z2:Value) (n:Nat) (xs:List Value) (hs:a.eval s=v) (hown:w.ownsRow base 109 2 v n xs) (hx:a.eval x=.slice (some ⟨g,0,none⟩) 1 1)
  (hc:w.heap[g]?=some (.cells #[z1,z2] 109 (0,0))) (h1:z1.oneCell'=true) (h2:z2.oneCell'=true) (hbytes:n<=100000) (hbase:base<=w.heap.size)
  (h:∀ v' w',w'.ownsRow base 109 2 v' (n+1) (xs++[z1,z2])->w.grownBy w' v.ownBlock->(v'.ownBlock=v.ownBlock∨v'.ownBlock=some w.heap.size)->K (a.put o.dst v') w') :
  if Region.wanted o (yielded ops a.tmps)=true then Oper.wp Tryz.prog o a w K Q else E:=by
 obtain ⟨i0,hi,hz0,hz1',hz2⟩:=info_parts info109A
 refine step_append_ownG hgd s x 103 ho base 109 i0 (.agg #[.slice none 0 0,.slice none 0 0]) 2 48 Tryz.underlying103 hi hz0 hz1' hz2 rfl (by decide) v n xs hs hown ⟨g,0,none⟩ 1 1 [z1,z2] hx rfl ?_ (fun u hu=>by
  simp only [List.mem_cons,List.not_mem_nil,or_false] at hu
  rcases hu with rfl | rfl
  ·exact h1
  ·exact h2) (by unfold maxLen;omega) (by omega) hbase h
 intro j u hu
 rw [add0]
 rw [cell_block hc]
 simpa using hu
def Fil (W:World) (B fp id:Nat) (fv:Value) (gs:List Gr):Prop :=
 ∃ gv xs,W.heap[fp]?=some (.cells #[.int .u32 (id:Int),fv,gv] 105 (0,0))/\B<=fp/\W.ownsRow B 109 2 gv gs.length xs /\
  ∀ j (h:j<gs.length),∃ a b,xs[2*j]?=some a/\xs[2*j+1]?=some b/\Gro W B (.agg #[a,b]) gs[j].1 gs[j].2
theorem Gro.turn {W W':World} {B:Nat} {v:Value} {rows:List Row} {sts:List Stt} (h:Gro W B v rows sts) (hb:∀ k cur e,B<=k->k<W.heap.size->e≠105->e≠109->W.heap[k]?=some (.cells cur e (0,0))->W'.heap[k]?=W.heap[k]?):Gro W' B v rows sts:=by
 obtain ⟨R,rvs,vs,rfl,h1,h2,h3⟩:=h
 have key:∀ {e:TypeId} {size n:Nat} {v:Value} {xs:List Value},W.ownsRow B e size v n xs->e≠105->e≠109->W'.ownsRow B e size v n xs:=fun {e size n v xs} ho e1 e2=>ownG_same ho fun k hk=>by
  obtain ⟨a,b,cur,hc⟩:=ownG_block ho hk
  exact hb k cur e a b e1 e2 hc
 refine ⟨R,rvs,vs,rfl,key h1 (by decide) (by decide),fun i hi=>?_,key h3 (by decide) (by decide)⟩
 obtain ⟨rv,e1,e2⟩:=h2 i hi
 exact ⟨rv,e1,key e2 (by decide) (by decide)⟩
theorem Gro.low {W:World} {B B':Nat} {v:Value} {rows:List Row} {sts:List Stt} (h:Gro W B v rows sts) (hB:B'<=B):Gro W B' v rows sts:=by
 obtain ⟨R,rvs,vs,rfl,h1,h2,h3⟩:=h
 have lo:∀ {e:TypeId} {size n:Nat} {v:Value} {xs:List Value},W.ownsRow B e size v n xs->W.ownsRow B' e size v n xs:=fun {e size n v xs} h=>⟨h.1,h.2.imp id fun ⟨g,cap,cur,hv,hb,r⟩=>⟨g,cap,cur,hv,Nat.le_trans hB hb,r⟩⟩
 exact ⟨R,rvs,vs,rfl,lo h1,fun i hi=>by obtain ⟨rv,e1,e2⟩:=h2 i hi;exact ⟨rv,e1,lo e2⟩,lo h3⟩
theorem Gro.parts {W:World} {B:Nat} {v:Value} {rows:List Row} {sts:List Stt} (h:Gro W B v rows sts):∃ z1 z2,v=.agg #[z1,z2]/\z1.oneCell'=true/\z2.oneCell'=true:=by
 obtain ⟨R,rvs,vs,rfl,h1,h2,h3⟩:=h
 obtain ⟨a,m,c,rfl⟩:=own_slice3 h3
 exact ⟨_,_,rfl,rfl,rfl⟩
theorem Fil.turn {W W':World} {B fp id:Nat} {fv:Value} {gs:List Gr} (h:Fil W B fp id fv gs) (hb:∀ k,B<=k->k<W.heap.size->W'.heap[k]?=W.heap[k]?):Fil W' B fp id fv gs:=by
 obtain ⟨gv,xs,h1,h2,h3,h4⟩:=h
 refine ⟨gv,xs,(hb fp h2 (Array.getElem?_eq_some_iff.1 h1).1).trans h1,h2,ownG_same h3 fun k hk=>?_,fun j hj=>?_⟩
 ·obtain ⟨a,b,_⟩:=ownG_block h3 hk
  exact hb k a b
 ·obtain ⟨a,b,e1,e2,e3⟩:=h4 j hj
  exact ⟨a,b,e1,e2,e3.turn fun k _ _ k1 k2 _ _ _=>hb k k1 k2⟩
theorem Fil.kept {W W':World} {B fp id:Nat} {fv:Value} {gs:List Gr} (h:Fil W B fp id fv gs) (hb:Below W.heap.size W W'):Fil W' B fp id fv gs:=h.turn fun k _ hk=>hb.block k hk
theorem Fil.frp {W W':World} {B fp id p:Nat} {fv:Value} {gs:List Gr} (h:Fil W B fp id fv gs) (hf:Fr p W.heap.size W W') (hp:p<B):Fil W' B fp id fv gs:=h.turn fun k hB hk=>hf.block k hk (by omega)
theorem Fil.add {W W':World} {B fp id:Nat} {fv gv gv' z1 z2:Value} {xs:List Value} {gs:List Gr} {g:Gr} (h1:W.heap[fp]?=some (.cells #[.int .u32 (id:Int),fv,gv] 105 (0,0))) (h2:B<=fp) (h3:W.ownsRow B 109 2 gv gs.length xs)
  (h4:∀ j (h:j<gs.length),∃ a b,xs[2*j]?=some a/\xs[2*j+1]?=some b/\Gro W B (.agg #[a,b]) gs[j].1 gs[j].2) (hg:Gro W B (.agg #[z1,z2]) g.1 g.2)
  (ho:W'.ownsRow B 109 2 gv' (gs.length+1) (xs++[z1,z2])) (hgr:W.grownBy W' gv.ownBlock) (he:gv'.ownBlock=gv.ownBlock∨gv'.ownBlock=some W.heap.size) :
  Fil (W'.setCell ⟨fp,2,none⟩ gv') B fp id fv (gs++[g])/\Below B W (W'.setCell ⟨fp,2,none⟩ gv')/\W'.cell? ⟨fp,2,none⟩=some gv/\W'.frozen? ⟨fp,2,none⟩=false:=by
 have hfl:fp<W.heap.size:=(Array.getElem?_eq_some_iff.1 h1).1
 have hfv:gv.ownBlock≠some fp:=fun e=>by
  obtain ⟨_,_,c,hc⟩:=ownG_block h3 e
  rw [h1] at hc
  cases hc
 have hf':W'.heap[fp]?=some (.cells #[.int .u32 (id:Int),fv,gv] 105 (0,0)):=(hgr.block fp hfl (fun e=>hfv e.symm)).trans h1
 have hfv':gv'.ownBlock≠some fp:=fun e=>by
  rcases he with e1 | e1
  ·exact hfv (e1.symm.trans e)
  ·rw [e1] at e
   cases e
   exact absurd hfl (Nat.lt_irrefl _)
 have hn:∀ k,k≠fp->(W'.setCell ⟨fp,2,none⟩ gv').heap[k]?=W'.heap[k]?:=fun k hk=>Below.heap_setCell _ _ _ _ (by simpa using hk)
 have hlen:=h3.1
 have turned:∀ {v:Value} {rows:List Row} {sts:List Stt},Gro W B v rows sts->Gro (W'.setCell ⟨fp,2,none⟩ gv') B v rows sts:=fun {v rows sts} hh=>hh.turn fun k cur e k1 k2 e1 e2 hc=>by
  have hkf:k≠fp:=by
   rintro rfl
   rw [h1] at hc
   cases hc
   exact e1 rfl
  rw [hn k hkf]
  refine hgr.block k k2 (fun e'=>?_)
  obtain ⟨_,_,c',hc'⟩:=ownG_block h3 e'.symm
  rw [hc] at hc'
  cases hc'
  exact e2 rfl
 refine ⟨⟨gv',xs++[z1,z2],?_,h2,?_,fun j hj=>?_⟩,⟨hgr.os,hgr.tape,hgr.output,Nat.le_trans hgr.size (by simp [World.setCell]),fun k hk=>?_⟩,by rw [cell_block hf'];rfl,by simp [World.frozen?,hf']⟩
 ·rw [heap_setC hf']
  rfl
 ·rw [List.length_append]
  exact ownG_same ho fun k hk=>hn k (fun e=>hfv' (e ▸ hk))
 ·rw [List.length_append] at hj
  simp only [List.length_cons,List.length_nil] at hj
  by_cases hjl:j<gs.length
  ·obtain ⟨a,b,e1,e2,e3⟩:=h4 j hjl
   refine ⟨a,b,by rw [List.getElem?_append_left (by omega)];exact e1,by rw [List.getElem?_append_left (by omega)];exact e2,?_⟩
   rw [List.getElem_append_left hjl]
   exact turned e3
  ·obtain rfl:j=gs.length:=by omega
   refine ⟨z1,z2,?_,?_,?_⟩
   ·rw [List.getElem?_append_right (by omega),show 2*gs.length-xs.length=0 by omega]
    rfl
   ·rw [List.getElem?_append_right (by omega),show 2*gs.length+1-xs.length=1 by omega]
    rfl
   ·rw [List.getElem_append_right (Nat.le_refl _)]
    simp only [Nat.sub_self,List.getElem_cons_zero]
    exact turned hg
 ·rw [hn k (by omega)]
  refine hgr.block k (by omega) (fun e=>?_)
  have:=(ownG_block h3 e.symm).1
  omega
end Go.Proofs.YtpljdjmpamjkhaaGreatDoor
