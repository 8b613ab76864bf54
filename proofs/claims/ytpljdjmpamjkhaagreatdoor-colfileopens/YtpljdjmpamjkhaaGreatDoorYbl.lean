import Derived.Test.YtpljdjmpamjkhaaGreatDoorYbk
set_option linter.unusedVariables false
set_option linter.unusedSimpArgs false
set_option maxRecDepth 100000
set_option maxHeartbeats 4000000
namespace Go.Proofs.YtpljdjmpamjkhaaGreatDoor
open Go.RowKit Go.Lib
theorem JN:(Tryz.prog.info? 79).map (fun i=>(i.zero,i.size,i.bytes))=some (some (.slice none 0 0),1,24):=by kernel_rfl
theorem eM(rs:List Row)(l:List Cl):(psh rs l).length=rs.length:=by simp[psh]
theorem ox{rs:List Row}{l:List Cl}{i:Nat}(h:i<rs.length):(psh rs l)[i]'(by rw[eM];exact h)=rs[i]++(l[i]?).toList:=by simp[psh]
theorem Ub(rs:List Row):psh rs []=rs:=by
 apply List.ext_getElem (eM _ _)
 intro i h1 h2;rw[ox h2];simp
theorem QH{rs:List Row}{l:List Cl}{j:Nat}(h1:j<rs.length)(h2:j<l.length):(psh rs (l.take j)).set j ((psh rs (l.take j))[j]'(by rw[eM];exact h1)++[l[j]])=psh rs (l.take (j+1)):=by
 apply List.ext_getElem (by simp[eM])
 intro i h3 h4;rw[eM]at h4;rw[ox h4];by_cases e:i=j
 ·subst e
  rw[List.getElem_set_self]
  have e:(psh rs (l.take i))[i]'(by rw[eM];exact h1)=rs[i]:=by
   rw[ox (l:=l.take i) h1];simp[List.getElem?_take]
  rw[e];simp[List.getElem?_take,h2]
 ·rw[List.getElem_set_ne (Ne.symm e),ox h4]
  congr 2
  simp only[List.getElem?_take];by_cases h5:i<j
  ·rw[if_pos h5,if_pos (by omega)]
  ·rw[if_neg h5,if_neg (by omega)]
theorem LP{k n:Nat}{s:S3}(hk:1<=k/\k<=3)(hn:n<=64)(hb:Bs s.1):(∀ x∈(iq k n s).1,aU x)/\(iq k n s).1.length<=n:=by
 unfold iq;simp only;cases h:gj k (s.1.take (fY 0 s.1.length s.2.1)) n with
 | none=>exact⟨fun x hx=>by simp at hx,by simp⟩
 | some l =>
  obtain⟨h1,h2,_⟩:=(lJ hk (by omega) (hb.take _)).1 h;exact⟨fun x hx=>(h1.2.2 x hx).fine,by simp[h2]⟩
theorem QI(k n:Nat)(s:S3):(iq k n s).2.1.length<=s.1.length:=by
 unfold iq;simp only[jai];omega
theorem QJ(l:List Cl)(s:S3):(pM l s).1=s.1:=by
 unfold pM;split<;>rfl
theorem DU{fs:List Fd}{n:Nat}{s:S3}:∀{k:Nat},k<=fs.length->(grK fs n s k).1.length=n/\(grK fs n s k).2.1.length=k/\(grK fs n s k).2.2.1.length<=s.1.length/\∀ r∈(grK fs n s k).1,r.length<=k:=by
 intro k;induction k with
 | zero=>exact fun _=>⟨by simp[wG],rfl,ZR _,fun r hr=>by rw[wG]at hr;simp only[List.mem_replicate]at hr;rw[hr.2];exact ZR _⟩
 | succ k ih =>
  intro h;obtain⟨h1,h2,h3,h4⟩:=ih (by omega);rw[qQ (by omega)];unfold grS;refine⟨by simp only[eM];exact h1,by simp[h2],?_,?_⟩
  ·simp only
   rw[QJ];exact ZZ (QI _ _ _) h3
  ·simp only
   intro r hr;obtain⟨i,hi,rfl⟩:=List.getElem_of_mem hr;have hi':=hi;rw[eM]at hi';rw[ox hi',ZT];have:=h4 _ (ZV hi');have h5:∀ o:Option Cl,o.toList.length<=1:=fun o=>by cases o<;>simp
   have:=h5 ((iq fs[k].2.2.1 n (grK fs n s k).2.2).1[i]?);omega
theorem eN{W:World}{B:Nat}{e:TypeId}{size n:Nat}{v:Value}{xs:List Value}(h:W.ownsRow B e size v n xs):∃ a m c,v=.slice a m c:=by
 rcases h.2 with ⟨h,_⟩ | ⟨_,_,_,h,_⟩
 ·exact⟨_,_,_,h⟩
 ·exact⟨_,_,_,h⟩
theorem xT{w:World}{ops:Array Oper}{o:Oper}{a:Act}{K:Act->World->Prop}{Q:Exit->Act->World->Prop}{E:Prop}(ee:o.guard=none)(s x:Operand)
  (ho:o.op=.call { callee:=.builtin .append,args:=#[s,x],argTypes:=#[107,107] })
  (base:Nat) (v:Value) (g:Nat) (z:Stt) (l0:List Stt) (hs:a.eval s=v) (az:w.ownsRow base 54 10 v l0.length (l0.flatMap celS)) (hx:a.eval x=.slice (some ⟨g,0,none⟩) 1 1)
  (hc:Stb w g z) (hbytes:l0.length<=100000) (aH:base<=w.heap.size)
  (h:∀ v' w',w'.ownsRow base 54 10 v' (l0.length+1) (l0.flatMap celS++celS z)->w.grownBy w' v.ownBlock->(v'.ownBlock=v.ownBlock∨v'.ownBlock=some w.heap.size)->K (a.put o.dst v') w') :
  if Region.wanted o (yielded ops a.tmps)=true then Oper.wp Tryz.prog o a w K Q else E:=by
 obtain⟨i0,hi,ce,hz1',bm⟩:=info_parts Xn
 refine iX ee s x 107 ho base 54 i0 (.agg #[.int .i64 0,.int .i64 0,.bool false,.bool false,.int .u8 0,.int .i64 0,.string ⟨#[]⟩,.int .u8 0,.int .i64 0,.string ⟨#[]⟩]) 10 88 Tryz.underlying107 hi ce hz1' bm rfl (by decide) v l0.length (l0.flatMap celS) hs az ⟨g,0,none⟩ 1 1 (celS z) hx rfl ?_ (fun u hu=>by
  unfold celS at hu;simp only[Z6,jbm,or_false]at hu;rcases hu with rfl | rfl | rfl | rfl | rfl | rfl | rfl | rfl | rfl | rfl<;>rfl) (by unfold maxLen;omega) (by omega) aH h
 intro j u hu;rw[md];unfold Stb at hc;rw[ax hc];unfold celS at hu;simpa using hu
theorem xU{w:World}{ops:Array Oper}{o:Oper}{a:Act}{K:Act->World->Prop}{Q:Exit->Act->World->Prop}{E:Prop}(ee:o.guard=none)(s x:Operand)
  (ho:o.op=.call { callee:=.builtin .append,args:=#[s,x],argTypes:=#[79,79] })
  (base:Nat) (v:Value) (g:Nat) (z:Cl) (l0:List Cl) (hs:a.eval s=v) (az:OwnV w base v l0) (hx:a.eval x=.slice (some ⟨g,0,none⟩) 1 1)
  (hc:w.cell? ⟨g,0,none⟩=some (de z)) (hbytes:l0.length<=100000) (aH:base<=w.heap.size)
  (h:∀ v' w',OwnV w' base v' (l0++[z])->w.grownBy w' v.ownBlock->(v'.ownBlock=v.ownBlock∨v'.ownBlock=some w.heap.size)->K (a.put o.dst v') w') :
  if Region.wanted o (yielded ops a.tmps)=true then Oper.wp Tryz.prog o a w K Q else E:=by
 obtain⟨i0,hi,ce,hz1',bm⟩:=info_parts uQ;have hvc:=aF l0
 refine iX ee s x 79 ho base 78 i0 .nilIface 1 16 Tryz.underlying79 hi ce hz1' bm rfl (by decide) v l0.length (aI l0) hs az ⟨g,0,none⟩ 1 1 [de z] hx rfl ?_ (fun u hu=>by
  simp only[Z6,jbm,or_false]at hu;subst hu;rcases wP z with e | ⟨_,_,e⟩<;>rw[e]<;>rfl) (by unfold maxLen;omega) (by omega) aH ?_
 ·intro j u hu
  cases j with
  | zero =>
   rw[md];simpa [hc]using hu
  | succ j=>simp at hu
 ·intro v' w' o1 g1 e1
  refine h v' w' ?_ g1 e1;unfold OwnV;rw[ZT];have:aI (l0++[z])=aI l0++[de z]:=by simp[aI]
  rw[this];exact o1
def Gro(W:World)(B:Nat)(v:Value)(rows:List Row)(sts:List Stt):Prop :=
 ∃ R rvs vs,v=.agg #[.slice (some ⟨R,0,none⟩) rows.length rows.length,vs]/\W.ownsRow B 79 1 (.slice (some ⟨R,0,none⟩) rows.length rows.length) rows.length rvs /\
  (∀ i (h:i<rows.length),∃ rv,rvs[i]?=some rv/\OwnV W B rv rows[i])/\W.ownsRow B 54 10 vs sts.length (sts.flatMap celS)
theorem Grm.gro{W:World}{B q R n:Nat}{rvs:List Value}{rows:List Row}{vs:Value}{sts:List Stt}(h:Grm W B q R n rvs rows vs sts):Gro W B (.agg #[.slice (some ⟨R,0,none⟩) n n,vs]) rows sts:=by
 obtain⟨_,_,h1,h2,h3,_,h4⟩:=h;subst h2;exact⟨R,rvs,vs,rfl,h1,h3,h4⟩
theorem Sf.keptW{W W':World}{B:Nat}{v:Value}{l:List Fd}(h:Sf W v l)(hv:∀ k,v.ownBlock=some k->k<B)(hb:Below B W W'):Sf W' v l:=by
 obtain⟨a,cap,rfl,h2,h3,h0,h4⟩:=h;refine⟨a,cap,rfl,h2,h3,h0,fun h0=>?_⟩;obtain⟨b,off,rfl,h6,h7⟩:=h4 h0;have hb':b<B:=hv b rfl;exact⟨b,off,rfl,Z9 h6 hb.size,fun j x hj=>(hb.cell (p:=⟨b,off+j,none⟩) hb').trans (h7 j x hj)⟩
theorem DV{w:World}{p:Nat}{c f:List Nat}{fl:Bool}(h:R3 w p c f fl){fv:Value}{fs:List Fd}(hs:Sf w fv fs)(hw:∀ i,fv.ownBlock=some i->i<p)(hk:∀ x∈fs,1<=x.2.2.1/\x.2.2.1<=3)(id n:Nat)(hn:1<=n/\n<=64)(jM:fs.length<=8)(eO:c.length<=100000000) :
  Calls Tryz.prog 142 #[.pointer (some ⟨p,0,none⟩),.agg #[.int .u32 (id:Int),fv],.int .i64 (n:Int)] w fun r w'=>(∃ v,r=.returned v/\Gro w' w.heap.size v (grK fs n (c,f,fl) fs.length).1 (grK fs n (c,f,fl) fs.length).2.1)/\R3 w' p (grK fs n (c,f,fl) fs.length).2.2.1 (grK fs n (c,f,fl) fs.length).2.2.2.1 (grK fs n (c,f,fl) fs.length).2.2.2.2/\Fr p w.heap.size w w':=by
 obtain⟨i0,hi,ce,hz1',bm⟩:=info_parts JN;have aB:=h.lt;have HGR:=ae (fun k (hk:k<=fs.length)=>DU (fs:=fs) (n:=n) (s:=(c,f,fl)) hk);have HGS:=ae (fun k (hk:k<fs.length)=>qQ hk n (c,f,fl));have HG0:=ae (wG fs n (c,f,fl));obtain⟨G,hG⟩:∃ G,grK fs n (c,f,fl)=G:=⟨_,rfl⟩;rw[hG]at HGR HGS HG0 ⊢;clear hG;obtain⟨a,cap,rfl,aX,bw⟩:=hs.form;have aG:=ak w (.cells #[.int .u32 (id:Int),.slice a fs.length cap] 25);have aD:=ak (w.alloc (.cells #[.int .u32 (id:Int),.slice a fs.length cap] 25)) (.cells #[.slice none 0 0,.slice none 0 0] 109);obtain⟨x0,x1⟩:=bE w (.int .u32 (id:Int)) (.slice a fs.length cap) 25;have hA0:w.heap.size<(w.alloc (.cells #[.int .u32 (id:Int),.slice a fs.length cap] 25)).heap.size:=by rw[ZS];omega
 have sA:((w.alloc (.cells #[.int .u32 (id:Int),.slice a fs.length cap] 25)).alloc (.cells #[.slice none 0 0,.slice none 0 0] 109)).heap.size=w.heap.size+2:=by rw[ZS,ZS]
 have x2:((w.alloc (.cells #[.int .u32 (id:Int),.slice a fs.length cap] 25)).alloc (.cells #[.slice none 0 0,.slice none 0 0] 109)).heap[w.heap.size+1]?=some (.cells #[.slice none 0 0,.slice none 0 0] 109 (0,0)):=by
  have:=heap_alloc_new (w.alloc (.cells #[.int .u32 (id:Int),.slice a fs.length cap] 25)) (.cells #[.slice none 0 0,.slice none 0 0] 109);rwa[ZS]at this
 have x3:((w.alloc (.cells #[.int .u32 (id:Int),.slice a fs.length cap] 25)).alloc (.cells #[.slice none 0 0,.slice none 0 0] 109)).cell? ⟨w.heap.size,1,none⟩=some (.slice a fs.length cap):=(aD.cell (p:=⟨w.heap.size,1,none⟩) hA0).trans x1;have hAb:Below w.heap.size w ((w.alloc (.cells #[.int .u32 (id:Int),.slice a fs.length cap] 25)).alloc (.cells #[.slice none 0 0,.slice none 0 0] 109)):=ai aG aD;have HR:=ae (h.kept hAb aB);have HS:=ae (hs.keptW hw (hAb.mono (by omega)));have VR:=ae hAb;have lr:=ae sA;have yd:=ae x2;clear h hs aG aD x0 x1 hAb sA x2 hA0;generalize hA:(w.alloc (.cells #[.int .u32 (id:Int),.slice a fs.length cap] 25)).alloc (.cells #[.slice none 0 0,.slice none 0 0] 109)=A at *;go_enter Tryz.func142,Tryz.ntmps142
 go_wp2_with (first | (refine wpList_make_full _ rfl _ _ 34 rfl A.heap.size 79 i0 (.slice none 0 0) 1 Tryz.underlying34 hi ce hz1' .i64 .i64 _ _ n rfl rfl ?m1 ?m2 ?m3 ?m4 ?m5 ?_))
 case m1=>rfl
 case m2=>rfl
 case m3=>first | omega | (rw[bm];omega)
 case m4=>unfold maxLen;omega
 try (case m5=>omega)
 intro w4 gD iL;have bv:Below A.heap.size A w4:=(ZQ _ _).grown iL (ZR _) (fun k hk=>by cases hk);have Hq:A.heap.size<w4.heap.size:=(gD.lt A.heap.size rfl).2
 have ho4':w4.ownsRow A.heap.size 79 1 (.slice (some ⟨A.heap.size,0,none⟩) n n) n (List.replicate n (.slice none 0 0)):=by
  rw[← toList_madeCells_one];simpa using gD
 have bq:=ak w4 (.cells #[.slice (some ⟨A.heap.size,0,none⟩) n n,.slice none 0 0] 109)
 have hG5:Grm (w4.alloc (.cells #[.slice (some ⟨A.heap.size,0,none⟩) n n,.slice none 0 0] 109)) A.heap.size w4.heap.size A.heap.size n (List.replicate n (.slice none 0 0)) (List.replicate n []) (.slice none 0 0) [] :=
  ⟨heap_alloc_new w4 _,bv.size,bH ho4' bq,List.length_replicate,fun i hi=>⟨.slice none 0 0,by simp at hi;simp[hi],by simp only[List.getElem_replicate];exact OwnV.nil _ _⟩,(fun i j ri rj b Mq BN hrj hb=>by
   rw[List.getElem?_replicate]at BN;split at BN
   ·cases BN
    cases hb
   ·cases BN),jaB _ _ _ _⟩
 have Rl:Below A.heap.size A (w4.alloc (.cells #[.slice (some ⟨A.heap.size,0,none⟩) n n,.slice none 0 0] 109)):=ai bv bq;have My:=ae hG5;have uw:=ae (HR.out.kept Rl HR.out.lt);have rI:=ae (HS.out.kept Rl);have aR:=ae Rl;have Yo:=(Rl.cell (p:=⟨w.heap.size,1,none⟩) (by rw[lr.out];simp)).trans x3;have hqA:A.heap.size<w4.heap.size:=Hq;clear gD iL bv ho4' bq hG5 Rl hA x3;go_upto_region 2 with fail
 generalize w4.alloc (.cells #[.slice (some ⟨A.heap.size,0,none⟩) n n,.slice none 0 0] 109)=W5 at *;have HK:=ae hk;have hcl5:∃ u,W5.cell? ⟨w.heap.size,1,none⟩=some u:=⟨_,Yo⟩;clear hk hcl5;have HZQ:=ae hqA;generalize w4.heap.size=q at *;clear Hq;have JZ:p<A.heap.size:=by have:=lr.out;omega
 go_wp2_with fail;go_loopw [19] (fun i wr=>∃(k:Nat) (rvs:List Value) (vs:Value),i=.int .i64 (k:Int)/\k<=fs.length/\Grm wr A.heap.size q A.heap.size n rvs (G k).1 vs (G k).2.1/\R3 wr p (G k).2.2.1 (G k).2.2.2.1 (G k).2.2.2.2/\Fr p A.heap.size A wr) (fun i _=>fs.length-(intOf i).toNat)
 case atStart =>
  refine⟨0,List.replicate n (.slice none 0 0),.slice none 0 0,rfl,by omega,?_,?_,Fr.of_below aR.out⟩
  ·rw[HG0.out];exact My.out
  ·rw[HG0.out];exact uw.out
 case round =>
  obtain⟨k,rvs,vs,rfl,hk,hg,hr,hf⟩:=hrel;have HG:=ae hg;have HR:=ae hr;have HF:=ae hf
  have hvs:∃ va vn vc,vs=.slice va vn vc:=by
   rcases hg.st.2 with ⟨h,_⟩ | ⟨_,_,_,h,_⟩
   ·exact⟨_,_,_,h⟩
   ·exact⟨_,_,_,h⟩
  obtain⟨va,vn,vc,rfl⟩:=hvs;obtain⟨y0,y1,y2,y3⟩:=hg.cells;have iB:=hf.size;have hqr:=hg.lt;have R5:=ae (HGR.out k hk);clear hg hr;by_cases jC:k<fs.length
  ·obtain⟨b,off,rfl,hb,z0,z1,z2,z3⟩:=(HS.out.keptW hw (hf.below (ZR p) (by omega))).at jC
   have HGK:=ae (HGS.out k jC);have UO:=ae (HK.out fs[k] (ZV jC));have HCF:=ae (LP (n:=n) (s:=(G k).2.2) UO.out hn.2 HR.out.bs.1);have pe:Hid ((G k).2.2.1.length<=100000000):=ae (ZZ R5.out.2.2.1 eO);have SR:=ae (fun(U:World) (hU:R3 U p (G k).2.2.1 (G k).2.2.2.1 (G k).2.2.2.2)=>LM hU fs[k].2.2.1 n UO.out hn.2 pe.out);have SO:=ak wr (.cells #[.int .u32 (fs[k].1:Int),.string fs[k].2.1,.int .u8 (fs[k].2.2.1:Int),.bool fs[k].2.2.2] 81);have HRZ:=ae (HR.out.kept SO HR.out.lt);have HGZ:=ae (HG.out.kept SO);have HFZ:=ae (HF.out.then (SO.mono iB));have hlt2':(k:Int)<(fs.length:Int):=by omega
   clear hf SO;generalize fs[k]=fk at *;obtain⟨f1,f2,f3,f4⟩:=fk;simp only at *;have hbZ:∀ o,(wr.alloc o).heap.size=wr.heap.size+1:=fun o=>ZS _ _
   go_wp2_with fail;generalize wr.alloc (.cells #[.int .u32 (f1:Int),.string f2,.int .u8 (f3:Int),.bool f4] 81)=Z at *;refine(SR.out _ HRZ.out).mono ?_;rintro e w1 ⟨v,rfl,eG,zV,dt⟩;have hgk:G (k+1)=(psh (G k).1 (iq f3 n (G k).2.2).1,(G k).2.1++[ct (iq f3 n (G k).2.2).1],pM (iq f3 n (G k).2.2).1 (iq f3 n (G k).2.2).2):=HGK.out;generalize iq f3 n (G k).2.2=cr at *;obtain⟨l,c1,b1,fl1⟩:=cr;simp only at *;have HGN:=ae hgk;generalize G k=gk at *;obtain⟨rows,sts,s0⟩:=gk;simp only at *;have sX:=ae (HGZ.out.frp dt JZ);have gd:=ae (HFZ.out.trans (dt.mono HFZ.out.size));have cW:=HFZ.out.size;have fA:=ae (OwnV.of_le eG cW);have rL:=ae zV
   have HD1:Hid (∀(i:Nat) (ri:Value),rvs[i]?=some ri->∀ b,ri.ownBlock=some b->v.ownBlock≠some b):=ae (fun i ri hi b hb e=>by
    have hl:=(List.getElem?_eq_some_iff.1 hi).1;have h1:=HGZ.out.row.1;have h2:=HGZ.out.len;obtain⟨rv,e1,e2⟩:=HGZ.out.own i (by omega);rw[hi]at e1;cases e1
    have:=(aL e2 hb).2.1;have:=(aL eG e).1;omega)
   obtain⟨va1,vn1,vc1,rfl⟩:∃ va vn vc,v=.slice va vn vc:=by
    rcases eG.2 with ⟨h,_⟩ | ⟨_,_,_,h,_⟩
    ·exact⟨_,_,_,h⟩
    ·exact⟨_,_,_,h⟩
   obtain⟨st,iK⟩:∃ st,ct l=st:=⟨_,rfl⟩;obtain⟨S,hS⟩:∃ S,pM l (c1,b1,fl1)=S:=⟨_,rfl⟩
   have cP:Hid (∀ U:World,Below w1.heap.size w1 U->Calls Tryz.prog 182 #[.pointer (some ⟨p,0,none⟩),.slice va1 vn1 vc1] U fun e w'=>e=.returned (.agg #[.int .i64 st.rows,.int .i64 st.nulls,.bool st.some,.bool st.high,.int .u8 (st.lo.1:Int),.int .i64 st.lo.2.1,.string (am st.lo.2.2),.int .u8 (st.hi.1:Int),.int .i64 st.hi.2.1,.string (am st.hi.2.2)]) /\
     R3 w' p S.1 S.2.1 S.2.2/\Grm w' A.heap.size q A.heap.size n rvs rows (.slice va vn vc) sts/\Fr p A.heap.size A w'/\OwnV w' A.heap.size (.slice va1 vn1 vc1) l/\w'.cell? ⟨q,1,none⟩=some (.slice va vn vc)/\A.heap.size<=w'.heap.size/\∀ o,(w'.alloc o).cell? ⟨q,1,none⟩=some (.slice va vn vc)):=ae (fun U hU=>by
    refine(DR (rL.out.kept hU rL.out.lt) (fA.out.sv.kept hU) HCF.out.1 (by have:=HCF.out.2;omega)).mono ?_;rintro e w' ⟨rfl,hr,hf⟩;rw[hS]at hr;rw[iK];have hzU:=hU.size;have hfa:=(gd.out.then (hU.mono gd.out.size)).trans (hf.mono (ZZ gd.out.size hzU));have hg:=(sX.out.kept hU).frp hf JZ;exact⟨rfl,hr,hg,hfa,Fr.own hf (fA.out.kept hU) JZ,hg.cells.2.1,hfa.size,fun o=>((ak _ o).cell hg.lt).trans hg.cells.2.1⟩)
   rw[iK,hS]at HGN;obtain⟨y0,y1,y2,y3⟩:=sX.out.cells;have He:=gd.out.size;have ph:sts.length<=100000:=by have:=R5.out.2.1;omega
   clear hgk HGK eG zV dt SR HRZ HGZ HFZ HG HR HF z0 z1 z2 z3 iK hS;go_upto_region 6 with fail
   go_cut [] from 58 (fun wx=>∃ va6 vn6 vc6,Grm wx A.heap.size q A.heap.size n rvs rows (.slice va6 vn6 vc6) (sts++[st])/\R3 wx p S.1 S.2.1 S.2.2/\Fr p A.heap.size A wx/\OwnV wx A.heap.size (.slice va1 vn1 vc1) l)
   case first =>
    refine wp_region_noPanic ?_
    go_region_law (first
     | (refine xT (by rfl) _ _ (by rfl) A.heap.size _ _ st sts (by rfl) ?_ (by rfl) ?_ ph ?_ ?_;exact bH My.out.st (ak _ _);exact Stb.new _ st;(rw[ZS];omega);intro v6 w6 o6 g6 e6;obtain⟨J9,dN,⟨hc6,hc7⟩,RI⟩:=(My.out.kept (ak _ _)).addStat o6 g6 e6;obtain⟨va6,vn6,vc6,rfl⟩:=eN o6;have kB:=ae J9;have ET:=ae ((uw.out.kept (ak _ _) uw.out.lt).kept dN JZ);have EU:=ae ((xy.out.then ((ak _ _).mono xy.out.size)).trans (Fr.of_below dN));have V9:=ae (RI _ _ (OwnV.kept HV5.out (ak _ _)));clear o6 g6 e6 J9 dN RI)
     | (go_simp;go_at_call 182;refine(cP.out _ ?_).mono ?_;exact below_drewN (ZQ w1.heap.size w1) _;rintro e w5 ⟨rfl,M6,Wa,js,hv5,Yo,uG,ha5⟩;have uw:=ae M6;have My:=ae Wa;have xy:=ae js;have HV5:=ae hv5;clear M6 Wa js hv5;dsimp only)
     | fail)
    all_goals refine NoPanic.normal ?_
    all_goals go_wp2_with fail
    all_goals go_meet
    all_goals exact⟨_,_,_,kB.out,ET.out,EU.out,V9.out⟩
   case rest =>
   obtain⟨va6,vn6,vc6,J9,RT,MV,oK⟩:=hcut;have HD6:=ae (fun(i:Nat) (ri:Value) (hi:rvs[i]?=some ri)=>HD1.out i ri hi);obtain⟨aq,cq,hvq,rK,mS⟩:=oK.sv.form1;rw[aF]at hvq rK;cases hvq
   have kB:=ae J9;have ET:=ae RT;have EU:=ae MV;have V9:=ae oK;have hrn:rows.length=n:=R5.out.1;have hln:l.length<=n:=HCF.out.2;have hq2':vc1<=9223372036854775807:=by unfold maxLen at mS;omega
   clear J9 RT MV oK sX rL gd fA HD1 cP y0 y1 y2 y3 mS;go_wp2_with fail;go_loopw [38] (fun i wx=>∃(j:Nat) (rvs2:List Value),i=.int .i64 (j:Int)/\j<=l.length/\Grm wx A.heap.size q A.heap.size n rvs2 (psh rows (l.take j)) (.slice va6 vn6 vc6) (sts++[st])/\R3 wx p S.1 S.2.1 S.2.2/\Fr p A.heap.size A wx/\OwnV wx A.heap.size (.slice va1 l.length vc1) l/\∀ i,j<=i->∀ ri:Value,rvs2[i]?=some ri->∀ b,ri.ownBlock=some b->(Value.slice va1 l.length vc1).ownBlock≠some b) (fun i _=>l.length-(intOf i).toNat)
   case atStart =>
    refine⟨0,rvs,rfl,by omega,?_,ET.out,EU.out,V9.out,fun i _ ri hi=>HD6.out i ri hi⟩;rw[ja7,Ub];exact kB.out
   case round =>
    obtain⟨j,rvs2,rfl,hj,hg,hr,hf,hv,hd⟩:=hrel;have HG:=ae hg;have HR:=ae hr;have HF:=ae hf;have HV:=ae hv;have HD:=ae hd;obtain⟨y0,y1,y2,y3⟩:=hg.cells;have hqx:=hg.lt;have hax:=hf.size;by_cases mF:j<l.length
    ·have hjr:j<(psh rows (l.take j)).length:=by rw[eM];omega
     obtain⟨rv,zU,how⟩:=hg.own j hjr;obtain⟨b2,off2,Zv,aD,Hf⟩:=hv.sv.at1 (cK mF);obtain⟨ra,rn,rc,rfl⟩:=eN how;have hcr:=(hg.row.cellAt j (by omega)).trans zU;have lv:=hg.row.frozenAt j;have ER:Hid (∀ o,Below wr.heap.size wr (wr.alloc o).drew):=ae (fun o=>(ak wr o).drew);have xk:∀ o,(wr.alloc o).cell? ⟨q,0,none⟩=some (.slice (some ⟨A.heap.size,0,none⟩) n n):=fun o=>((ak wr o).cell hqx).trans y0
     have hRl:A.heap.size<wr.heap.size:=(aL (k:=A.heap.size) hg.row rfl).2.1;have har:∀ o,(wr.alloc o).cell? ⟨A.heap.size,j,none⟩=some (.slice ra rn rc):=fun o=>((ak wr o).cell hRl).trans hcr
     have R6:=ae how;have HPS:=ae (QH (rs:=rows) (l:=l) (j:=j) (by omega) mF);have HRV:=ae zU;have rF:(j:Int)<(l.length:Int):=by omega
     have hjn:(j:Int)<(n:Int):=by omega
     have hbt:((psh rows (l.take j))[j]).length<=100000:=by
      rw[ox (by omega),ZT];have h5:∀ o:Option Cl,o.toList.length<=1:=fun o=>by cases o<;>simp
      have:=h5 ((l.take j)[j]?);have:=R5.out.2.2.2 _ (ZV (show j<rows.length by omega));omega
     clear hg hr hf hv hd how zU y1 y3;generalize hrw:(psh rows (l.take j))[j]=row at *;have UA:=ae hrw;clear hrw;rcases wP l[j]with h0 | ⟨tt,uu,h0⟩
     all_goals
      rw[h0]at Hf;have H0:=ae h0;clear h0;generalize hxj:l[j]=xj at *;have HXJ:=ae hxj;clear hxj;subst Zv;go_upto_region 10 with fail
      refine wp_region_noPanic ?_
      go_region_law (first
       | (refine xU (by rfl) _ _ (by rfl) A.heap.size _ _ xj row (by rfl) ?_ (by rfl) ?_ hbt ?_ ?_;exact OwnV.kept R6.out (ER.out _);(rw[H0.out];show (wr.alloc _).cell? _=_;rw[ax (heap_alloc_new _ _)];rfl);(show A.heap.size<=(wr.alloc _).heap.size;rw[ZS];omega);intro v6 w6 o6 g6 e6;have o6':OwnV w6 A.heap.size v6 ((psh rows (l.take j))[j]++[xj]):=(by rw[UA.out];exact o6);obtain⟨J9,dN,⟨hc6,hc7,hc8⟩,RI⟩:=(HG.out.kept (ER.out _)).addCell hjr HRV.out o6' g6 e6;obtain⟨va7,vn7,vc7,rfl⟩:=eN o6;have kB:=ae J9;have ET:=ae ((HR.out.kept (ER.out _) HR.out.lt).kept dN JZ);have EU:=ae ((HF.out.then ((ER.out _).mono HF.out.size)).trans (Fr.of_below dN));have V9:=ae (RI _ _ (OwnV.kept HV.out (ER.out _)) (fun b hb=>HD.out j (ZR j) _ HRV.out b hb));clear o6 o6' g6 e6 J9 dN RI)
       | fail)
     all_goals
      refine NoPanic.normal ?_;go_wp2_with fail;go_roundw
      case rel =>
       refine⟨j+1,rvs2.set j (.slice va7 vn7 vc7),by go_num,by omega,?_,ET.out,EU.out,V9.out,fun i hi ri BN=>?_⟩
       ·rw[← HPS.out,← UA.out]
        exact kB.out
       ·rw[List.getElem?_set_ne (by omega)]at BN
        exact HD.out i (by omega) ri BN
      case measure=>simp[intOf];omega
    ·obtain rfl:j=l.length:=by omega
     have gJ:¬ ((l.length:Nat):Int)<(l.length:Int):=by omega
     clear hg hr hf hv hd y0 y1 y2 y3;have HGG:=ae HG.out;rw[ZY]at HGG;go_wp2_with fail;go_roundw
     case rel =>
      refine⟨k+1,rvs2,.slice va6 vn6 vc6,by go_num,by omega,?_,?_,HF.out⟩
      ·rw[HGN.out];exact HGG.out
      ·rw[HGN.out];exact HR.out
     case measure=>simp[intOf];omega
  ·obtain rfl:k=fs.length:=by omega
   have gJ:¬ ((fs.length:Nat):Int)<(fs.length:Int):=by omega
   have hsa:=lr.out;have Yw:¬ w.heap.size+1=p:=by omega
   have hT:wr.heap[w.heap.size+1]?=some (.cells #[.slice none 0 0,.slice none 0 0] 109 (0,0)):=(hf.block _ (by omega) Yw).trans yd.out;have t0:wr.cell? ⟨w.heap.size+1,0,none⟩=some (.slice none 0 0):=by rw[ax hT];rfl
   have t1:wr.cell? ⟨w.heap.size+1,1,none⟩=some (.slice none 0 0):=by rw[ax hT];rfl
   have t2:wr.frozen? ⟨w.heap.size+1,0,none⟩=false:=by simp[World.frozen?,hT]
   have t3:wr.frozen? ⟨w.heap.size+1,1,none⟩=false:=by simp[World.frozen?,hT]
   have hqa:A.heap.size<=q:=HG.out.hq;have yk:¬ q=w.heap.size+1:=by omega
   have hne3:¬ w.heap.size+1=q:=by omega
   have hfa:Fr p w.heap.size w wr:=(Fr.of_below VR.out).trans (hf.mono (by omega));have BO:=fh (fh (ZQ w.heap.size wr) (show w.heap.size<=w.heap.size+1 by omega) 0 (.slice (some ⟨A.heap.size,0,none⟩) n n)) (show w.heap.size<=w.heap.size+1 by omega) 1 (.slice va vn vc);have pn:=ae (HR.out.kept BO aB);have MU:=ae (hfa.trans (Fr.of_below BO))
   have HGF:=ae ((HG.out.turn (W':=(wr.setCell ⟨w.heap.size+1,0,none⟩ (.slice (some ⟨A.heap.size,0,none⟩) n n)).setCell ⟨w.heap.size+1,1,none⟩ (.slice va vn vc)) (fun j hj _=>by
    rw[Below.heap_setCell _ _ _ _ (by simp;omega),Below.heap_setCell _ _ _ _ (by simp;omega)])).low (show w.heap.size<=A.heap.size by omega)).gro
   clear hf hT hfa BO yd hsa;go_wp2_with fail;refine bodyPost_ret (v:=.agg #[.slice (some ⟨A.heap.size,0,none⟩) n n,.slice va vn vc]) (by simp[results,Tryz.results142,go_sem,t0,t1,t2,t3,Yw,yk,hne3]) rfl ⟨⟨_,rfl,HGF.out⟩,pn.out,MU.out⟩
theorem QK:(Tryz.prog.info? 109).map (fun i=>(i.zero,i.size,i.bytes))=some (some (.agg #[.slice none 0 0,.slice none 0 0]),2,48):=by kernel_rfl
theorem xV{w:World}{ops:Array Oper}{o:Oper}{a:Act}{K:Act->World->Prop}{Q:Exit->Act->World->Prop}{E:Prop}(ee:o.guard=none)(s x:Operand)
  (ho:o.op=.call { callee:=.builtin .append,args:=#[s,x],argTypes:=#[103,103] })
  (base:Nat) (v:Value) (g:Nat) (z1 z2:Value) (n:Nat) (xs:List Value) (hs:a.eval s=v) (az:w.ownsRow base 109 2 v n xs) (hx:a.eval x=.slice (some ⟨g,0,none⟩) 1 1)
  (hc:w.heap[g]?=some (.cells #[z1,z2] 109 (0,0))) (h1:z1.oneCell'=true) (h2:z2.oneCell'=true) (hbytes:n<=100000) (aH:base<=w.heap.size)
  (h:∀ v' w',w'.ownsRow base 109 2 v' (n+1) (xs++[z1,z2])->w.grownBy w' v.ownBlock->(v'.ownBlock=v.ownBlock∨v'.ownBlock=some w.heap.size)->K (a.put o.dst v') w') :
  if Region.wanted o (yielded ops a.tmps)=true then Oper.wp Tryz.prog o a w K Q else E:=by
 obtain⟨i0,hi,ce,hz1',bm⟩:=info_parts QK
 refine iX ee s x 103 ho base 109 i0 (.agg #[.slice none 0 0,.slice none 0 0]) 2 48 Tryz.underlying103 hi ce hz1' bm rfl (by decide) v n xs hs az ⟨g,0,none⟩ 1 1 [z1,z2] hx rfl ?_ (fun u hu=>by
  simp only[Z6,jbm,or_false]at hu;rcases hu with rfl | rfl
  ·exact h1
  ·exact h2) (by unfold maxLen;omega) (by omega) aH h
 intro j u hu;rw[md];rw[ax hc];simpa using hu
def Fil(W:World)(B fp id:Nat)(fv:Value)(gs:List Gr):Prop :=
 ∃ gv xs,W.heap[fp]?=some (.cells #[.int .u32 (id:Int),fv,gv] 105 (0,0))/\B<=fp/\W.ownsRow B 109 2 gv gs.length xs /\
  ∀ j (h:j<gs.length),∃ a b,xs[2*j]?=some a/\xs[2*j+1]?=some b/\Gro W B (.agg #[a,b]) gs[j].1 gs[j].2
theorem Gro.turn{W W':World}{B:Nat}{v:Value}{rows:List Row}{sts:List Stt}(h:Gro W B v rows sts)(hb:∀ k cur e,B<=k->k<W.heap.size->e≠105->e≠109->W.heap[k]?=some (.cells cur e (0,0))->W'.heap[k]?=W.heap[k]?):Gro W' B v rows sts:=by
 obtain⟨R,rvs,vs,rfl,h1,h2,h3⟩:=h
 have key:∀{e:TypeId} {size n:Nat} {v:Value} {xs:List Value},W.ownsRow B e size v n xs->e≠105->e≠109->W'.ownsRow B e size v n xs:=fun{e size n v xs} ho e1 e2=>bX ho fun k hk=>by
  obtain⟨a,b,cur,hc⟩:=aL ho hk;exact hb k cur e a b e1 e2 hc
 refine⟨R,rvs,vs,rfl,key h1 (by decide) (by decide),fun i hi=>?_,key h3 (by decide) (by decide)⟩;obtain⟨rv,e1,e2⟩:=h2 i hi;exact⟨rv,e1,key e2 (by decide) (by decide)⟩
theorem Gro.low{W:World}{B B':Nat}{v:Value}{rows:List Row}{sts:List Stt}(h:Gro W B v rows sts)(hB:B'<=B):Gro W B' v rows sts:=by
 obtain⟨R,rvs,vs,rfl,h1,h2,h3⟩:=h;have lo:∀{e:TypeId} {size n:Nat} {v:Value} {xs:List Value},W.ownsRow B e size v n xs->W.ownsRow B' e size v n xs:=fun{e size n v xs} h=>⟨h.1,h.2.imp id fun⟨g,cap,cur,hv,hb,r⟩=>⟨g,cap,cur,hv,ZZ hB hb,r⟩⟩
 exact⟨R,rvs,vs,rfl,lo h1,fun i hi=>by obtain⟨rv,e1,e2⟩:=h2 i hi;exact⟨rv,e1,lo e2⟩,lo h3⟩
theorem Gro.parts{W:World}{B:Nat}{v:Value}{rows:List Row}{sts:List Stt}(h:Gro W B v rows sts):∃ z1 z2,v=.agg #[z1,z2]/\z1.oneCell'=true/\z2.oneCell'=true:=by
 obtain⟨R,rvs,vs,rfl,h1,h2,h3⟩:=h;obtain⟨a,m,c,rfl⟩:=eN h3;exact⟨_,_,rfl,rfl,rfl⟩
theorem Fil.turn{W W':World}{B fp id:Nat}{fv:Value}{gs:List Gr}(h:Fil W B fp id fv gs)(hb:∀ k,B<=k->k<W.heap.size->W'.heap[k]?=W.heap[k]?):Fil W' B fp id fv gs:=by
 obtain⟨gv,xs,h1,h2,h3,h4⟩:=h;refine⟨gv,xs,(hb fp h2 (Array.getElem?_eq_some_iff.1 h1).1).trans h1,h2,bX h3 fun k hk=>?_,fun j hj=>?_⟩
 ·obtain⟨a,b,_⟩:=aL h3 hk
  exact hb k a b
 ·obtain⟨a,b,e1,e2,e3⟩:=h4 j hj
  exact⟨a,b,e1,e2,e3.turn fun k _ _ k1 k2 _ _ _=>hb k k1 k2⟩
theorem Fil.kept{W W':World}{B fp id:Nat}{fv:Value}{gs:List Gr}(h:Fil W B fp id fv gs)(hb:Below W.heap.size W W'):Fil W' B fp id fv gs:=h.turn fun k _ hk=>hb.block k hk
theorem Fil.add{W W':World}{B fp id:Nat}{fv gv gv' z1 z2:Value}{xs:List Value}{gs:List Gr}{g:Gr}(h1:W.heap[fp]?=some (.cells #[.int .u32 (id:Int),fv,gv] 105 (0,0)))(h2:B<=fp)(h3:W.ownsRow B 109 2 gv gs.length xs)
  (h4:∀ j (h:j<gs.length),∃ a b,xs[2*j]?=some a/\xs[2*j+1]?=some b/\Gro W B (.agg #[a,b]) gs[j].1 gs[j].2) (hg:Gro W B (.agg #[z1,z2]) g.1 g.2)
  (ho:W'.ownsRow B 109 2 gv' (gs.length+1) (xs++[z1,z2])) (R7:W.grownBy W' gv.ownBlock) (he:gv'.ownBlock=gv.ownBlock∨gv'.ownBlock=some W.heap.size) :
  Fil (W'.setCell ⟨fp,2,none⟩ gv') B fp id fv (gs++[g])/\Below B W (W'.setCell ⟨fp,2,none⟩ gv')/\W'.cell? ⟨fp,2,none⟩=some gv/\W'.frozen? ⟨fp,2,none⟩=false:=by
 have jM:fp<W.heap.size:=(Array.getElem?_eq_some_iff.1 h1).1
 have hfv:gv.ownBlock≠some fp:=fun e=>by
  obtain⟨_,_,c,hc⟩:=aL h3 e;rw[h1]at hc;cases hc
 have hf':W'.heap[fp]?=some (.cells #[.int .u32 (id:Int),fv,gv] 105 (0,0)):=(R7.block fp jM (fun e=>hfv e.symm)).trans h1
 have hfv':gv'.ownBlock≠some fp:=fun e=>by
  rcases he with e1 | e1
  ·exact hfv (e1.symm.trans e)
  ·rw[e1]at e
   cases e
   exact absurd jM (Nat.lt_irrefl _)
 have hn:∀ k,k≠fp->(W'.setCell ⟨fp,2,none⟩ gv').heap[k]?=W'.heap[k]?:=fun k hk=>Below.heap_setCell _ _ _ _ (by simpa using hk)
 have bQ:=h3.1
 have turned:∀{v:Value} {rows:List Row} {sts:List Stt},Gro W B v rows sts->Gro (W'.setCell ⟨fp,2,none⟩ gv') B v rows sts:=fun{v rows sts} hh=>hh.turn fun k cur e k1 k2 e1 e2 hc=>by
  have Yx:k≠fp:=by
   rintro rfl;rw[h1]at hc;cases hc
   exact e1 rfl
  rw[hn k Yx];refine R7.block k k2 (fun e'=>?_);obtain⟨_,_,c',hc'⟩:=aL h3 e'.symm;rw[hc]at hc';cases hc'
  exact e2 rfl
 refine⟨⟨gv',xs++[z1,z2],?_,h2,?_,fun j hj=>?_⟩,⟨R7.os,R7.tape,R7.output,ZZ R7.size (by simp[World.setCell]),fun k hk=>?_⟩,by rw[ax hf'];rfl,by simp[World.frozen?,hf']⟩
 ·rw[cM hf']
  rfl
 ·rw[ZT]
  exact bX ho fun k hk=>hn k (fun e=>hfv' (e ▸ hk))
 ·rw[ZT]at hj
  simp only[ZW,jad]at hj;by_cases rF:j<gs.length
  ·obtain⟨a,b,e1,e2,e3⟩:=h4 j rF
   refine⟨a,b,by rw[List.getElem?_append_left (by omega)];exact e1,by rw[List.getElem?_append_left (by omega)];exact e2,?_⟩;rw[jbu rF];exact turned e3
  ·obtain rfl:j=gs.length:=by omega
   refine⟨z1,z2,?_,?_,?_⟩
   ·rw[List.getElem?_append_right (by omega),show 2*gs.length-xs.length=0 by omega]
    rfl
   ·rw[List.getElem?_append_right (by omega),show 2*gs.length+1-xs.length=1 by omega]
    rfl
   ·rw[List.getElem_append_right (ZR _)]
    simp only[ja9,jbj];exact turned hg
 ·rw[hn k (by omega)]
  refine R7.block k (by omega) (fun e=>?_);have:=(aL h3 e.symm).1;omega
end Go.Proofs.YtpljdjmpamjkhaaGreatDoor
