/- The laws' example, walked. Contract of the laws: rows that fit. Contracts: Same. -/
import Derived.Test.YtpljdjmpamjkhaaGreatDoorZbt
import Derived.Test.YtpljdjmpamjkhaaGreatDoorZbu
import Derived.Test.YtpljdjmpamjkhaaGreatDoorZap
set_option linter.unusedVariables false
set_option linter.unusedSimpArgs false
set_option maxRecDepth 100000
set_option maxHeartbeats 8000000
namespace Go.Proofs.YtpljdjmpamjkhaaGreatDoor
open Go.RowKit Go.Lib
theorem xor8 {a b:Nat} (ha:a<256) (hb:b<256):bits .xor .u8 (a:Int) (b:Int)=((a ^^^ b:Nat):Int):=u8_xor_nat a b ha hb
theorem alive10_any {w:World} (ht:Tab w):Calls Tryz.prog 9 #[] w fun e w'=>e=.returned (.bool true)/\Below w.heap.size w w':=by
 have HT:=hidden ht
 clear ht
 go_enter Tryz.func9,Tryz.ntmps9
 go_wp2_with fail
 refine (two10_any _).mono ?_
 rintro e w1 ⟨⟨v1,rfl,o1⟩,hb1⟩
 obtain ⟨a1,c1,rfl,_,_⟩:=own_form3 o1
 simp only [show twoL.length=2 from rfl] at *
 have hb2:=below_one w1 (.cells #[.int .u32 1,.slice a1 2 c1] 25)
 have hz2:(w1.alloc (.cells #[.int .u32 1,.slice a1 2 c1] 25)).heap.size=w1.heap.size+1:=World.size_alloc _ _
 obtain ⟨x0,x1⟩:=cell_new2 w1 (.int .u32 1) (.slice a1 2 c1) 25
 obtain ⟨hrv,hbl⟩:=lit_rows (w1.alloc (.cells #[.int .u32 1,.slice a1 2 c1] 25))
 rw [hz2] at hrv hbl
 have hb12:=below_then hb1 hb2
 have HB12:=hidden (below_then hb12 (hbl.mono (Nat.le_of_eq hz2)))
 have HW:=hidden (write10_any (HT.out.kept HB12.out) ((o1.sf.kept hb2).kept (hbl.mono (Nat.le_of_eq hz2))) hrv okA (show (1:Nat)<4294967296 by omega) (fun r hr=>(fitAA r hr).2) 1)
 rw [writeA] at HW
 simp only at HW
 have HTW:=hidden (HT.out.kept HB12.out)
 clear hb1 hb2 hrv hbl hb12 o1 hz2
 go_wp2_with fail
 refine HW.out.mono ?_
 rintro e w6 ⟨⟨v6,rfl,o6⟩,hb6⟩
 have HO6:=hidden o6
 have HT6:=hidden (HTW.out.kept hb6)
 have HB6:=hidden (below_then HB12.out hb6)
 have hsv6:=o6.sv
 obtain ⟨a6,c6,rfl,_,_⟩:=own_form3 o6
 have HOP:=hidden (open10_any HT6.out hsv6 bsA (by have:=lenA.2;omega))
 have HSV6:=hidden hsv6
 clear hb6 o6 hsv6 HW HTW HB12 x0 x1
 go_wp2_with fail
 refine HOP.out.mono ?_
 rintro e w7 ⟨⟨c,hc,_⟩ | ⟨id,fs,g,gs,fp,fv,ho,rfl,hfil,hof⟩,hb7⟩
 ·rw [openA] at hc;cases hc
 rw [openA] at ho
 simp only [Except.ok.injEq,Prod.mk.injEq] at ho
 obtain ⟨rfl,rfl,rfl,rfl⟩:=ho
 have HFIL:Hid (Fil w7 w6.heap.size fp 1 fv gsA):=hidden hfil
 have HOF:=hidden hof
 have HB7:=hidden (below_then HB6.out hb7)
 have HT7:=hidden (HT6.out.kept hb7)
 have HSV7:=hidden (HSV6.out.kept hb7)
 have HRO:=hidden (rows10_any HFIL.out (by rw [allA];decide))
 rw [allA] at HRO
 simp only [show (rA.length:Int)=2 from rfl] at HRO
 clear hfil hof hb7 HOP HSV6
 go_wp2_with fail
 refine HRO.out.mono ?_
 rintro e w8 ⟨rfl,hb8⟩
 have HF8:=hidden (HFIL.out.kept hb8)
 have HOF8:=hidden (HOF.out.kept hb8)
 have HB8:=hidden (below_then HB7.out hb8)
 have HT8:=hidden (HT7.out.kept hb8)
 have HSV8:=hidden (HSV7.out.kept hb8)
 have HGO:=hidden (groups10_any HF8.out)
 simp only [show (gsA.length:Int)=2 from rfl] at HGO
 clear hb8 HRO HFIL HOF HT7 HSV7
 go_wp2_with fail
 refine HGO.out.mono ?_
 rintro e w8' ⟨rfl,rfl⟩
 clear HGO
 have HFI:=hidden (find10_any (op:=1) (f:=1) (c:=(1,2,[])) (ks:=[]) HF8.out HOF8.out.sf (kids_nil _) (fun U rv r hU hsv hfi=>eval1 rfl (kids_nil U) okpA lenpA (HOF8.out.sf.kept hU) hsv hfi) (fun U rv sts hU hss hos=>may1 rfl (kids_nil U) okpA (HOF8.out.sf.kept hU) hss hos) (fun r hr=>by
  rw [allA] at hr
  exact ⟨by have:=fit_len (fitAA r hr).1;rw [this];decide,(fitAA r hr).2⟩) (by rw [allA];decide) (by decide) oksA 0 1 [rA2] (fun _=>⟨findNA.symm,findRA.symm⟩) (fun h=>absurd rfl h) (fun U hU=>by
  refine (check1 (op:=1) (f:=1) (c:=(1,2,[])) (ks:=[]) (si:=1) rfl rfl (kids_nil U) okpA (HOF8.out.sf.kept hU)).mono ?_
  rintro e w' ⟨⟨n,rfl,hn⟩,hb⟩
  have hn1:=hn 1 1 (1,2,[]) rfl
  rw [hn1]
  exact ⟨by rw [show firstM twoL (.node 1 1 (1,2,[]) [])=0 from firstA],hb⟩))
 simp only [bytesT_nil] at HFI
 go_wp2_with fail
 refine HFI.out.mono ?_
 rintro e w9 ⟨⟨v9,l9,rfl,ho9,hsn9⟩,hb9⟩
 obtain ⟨rv,rfl⟩:∃ rv,l9=[(rv,rA2)]:=by
  match l9,hsn9 with
  | [(rv,r)],h =>
   have:r=rA2:=by simpa using h
   exact ⟨rv,by rw [this]⟩
 obtain ⟨a9,c9,rfl,_,_⟩:=ho9.form
 obtain ⟨g9,rfl,hg9,hcell9,hrow9⟩:=ho9.at (k:=0) (show 0<1 by omega)
 simp only [List.length_cons,List.length_nil,Nat.zero_add,List.getElem_cons_zero] at *
 obtain ⟨ra9,rc9,rfl,_,_⟩:=own_form3 hrow9
 simp only [show rA2.length=2 from rfl] at *
 have HR9:=hidden hrow9
 have HCE:=hidden hcell9
 have HB9:=hidden (below_then HB8.out hb9)
 have HT9:=hidden (HT8.out.kept hb9)
 have HSV9:=hidden (HSV8.out.kept hb9)
 have HG9:=hidden hg9
 have HBN:=hidden (below_alloc w9 (.cells #[] 5))
 have HLN:=hidden (lit_none w9)
 have HSN:=hidden (HSV9.out.kept HBN.out)
 have hla:=lenA
 clear hb9 ho9 hsn9 hrow9 hcell9 hg9 HFI HSV8 HT8 HF8 HOF8
 go_wp2_with (first | (at_builtin;refine wpList_append_g rfl _ _ rfl w9.heap.size _ _ [] bA rfl ?q1 rfl ?q2 ?k1 ?k2 ?_))
 case q1=>exact HLN.out
 case q2=>exact HSN.out
 case k1=>simp only [List.length_nil];omega
 case k2=>rw [World.size_alloc];omega
 intro v10 w10 o10 b10 _ _
 have hb910:=HBN.out.trans b10
 obtain ⟨g,cap,rfl,hBg,hgz⟩:=o10.form (by omega)
 obtain ⟨hck,hfr⟩:=o10.at hla.1
 have hx5:=bsA _ (List.getElem_mem hla.1)
 have hxx:bits .xor .u8 ((bA[5]'hla.1:Nat):Int) 1=((bA[5]'hla.1 ^^^ 1:Nat):Int):=xor8 (b:=1) hx5 (by omega)
 have HST:=hidden (o10.stored 5 (bA[5]'hla.1 ^^^ 1))
 have hB11:Below w9.heap.size w9 (w10.setCell ⟨g,5,none⟩ (.int .u8 ((bA[5]'hla.1 ^^^ 1:Nat):Int))):=hb910.setCell hBg _
 have HB11:=hidden hB11
 have HX8:Hid (Bs (bA.set 5 (bA[5]'hla.1 ^^^ 1))):=hidden (fun x hx=>by
  rcases List.mem_or_eq_of_mem_set hx with h | rfl
  ·exact bsA x h
  ·have:bA[5]'hla.1 ^^^ 1<2 ^ 8:=Nat.xor_lt_two_pow hx5 (by omega)
   omega)
 have HTU:=hidden turnA
 have HBL:Hid ((bA.set 5 (bA[5]'hla.1 ^^^ 1)).length=bA.length):=hidden List.length_set
 have HOP2:=hidden (open10_any (HT9.out.kept hB11) HST.out.sv HX8.out (by rw [HBL.out];omega))
 have hlt5:(5:Int)<(bA.length:Int):=by omega
 clear HBN HLN HSN o10 b10 hb910 hB11
 generalize bA.set 5 (bA[5]'hla.1 ^^^ 1)=bB at *
 generalize bA[5]'hla.1 ^^^ 1=z at *
 generalize bA[5]'hla.1=y at *
 go_wp2_with fail
 refine HOP2.out.mono ?_
 rintro e w12 ⟨⟨c,hc,rfl⟩ | ⟨id,fs,g',gs,fp',fv',ho,_⟩,hb12⟩
 case inr=>rw [HTU.out] at ho;cases ho
 rw [HTU.out] at hc
 obtain rfl:101=c:=by simpa using hc
 have hb9c:=HB11.out.trans (hb12.mono HB11.out.size)
 have hcell:=(hb9c.cell (p:=⟨g9,0,none⟩) HG9.out).trans HCE.out
 have hrow:=HR9.out.kept hb9c
 have HB12:=hidden (below_then HB9.out hb9c)
 have HC2:=hidden (cells_any hrow.sv fineA2 (by decide))
 clear hb12 hb9c hc HOP2 hrow
 go_wp2_with fail
 refine HC2.out.mono ?_
 rintro e w13 ⟨⟨v13,rfl,o13⟩,hb13⟩
 have HB13:=hidden (below_then HB12.out hb13)
 have hbl:=below_one w13 (.cells #[.int .u8 1,.int .i64 2,.string ⟨#[]⟩,.int .u8 0,.int .i64 0,.string ⟨#[]⟩] 52)
 have hlit:OwnC (w13.alloc (.cells #[.int .u8 1,.int .i64 2,.string ⟨#[]⟩,.int .u8 0,.int .i64 0,.string ⟨#[]⟩] 52)) w13.heap.size (.slice (some ⟨w13.heap.size,0,none⟩) 2 2) rA2:=litC52 w13 rA2 (by decide)
 have HSR:=hidden (sameRow_any (o13.sc.kept hbl) hlit.sc (fun c hc=>(fineA2 c hc).bsA) (fun c hc=>(fineA2 c hc).bsA))
 obtain ⟨a13,c13,rfl,_,_⟩:=own_form3 o13
 have HBL2:=hidden (below_then HB13.out hbl)
 simp only [show rA2.length=2 from rfl,decide_true] at *
 clear o13 hb13 hbl hlit HC2 hcell
 go_wp2_with fail
 refine HSR.out.mono ?_
 rintro e w14 ⟨rfl,hb14⟩
 have HB14:=hidden (below_then HBL2.out hb14)
 clear hb14
 go_wp2_with fail
 go_ret
 exact ⟨rfl,HB14.out⟩
end Go.Proofs.YtpljdjmpamjkhaaGreatDoor
set_option linter.unusedVariables false
set_option linter.unusedSimpArgs false
set_option maxRecDepth 100000
set_option maxHeartbeats 4000000
namespace Go.Proofs.YtpljdjmpamjkhaaGreatDoor
open Go.RowKit Go.Lib
def FitL (fs:List Fd) (most:Nat) (l:List (Value×Row)):Prop:=Fit10 l/\l.length<=most/\∀ x∈l,fitM fs x.2=0
theorem FitL.fit {fs:List Fd} {most:Nat} {l:List (Value×Row)} (h:FitL fs most l):FitA fs (l.map Prod.snd):=fun r hr=>by
 obtain ⟨x,hx,rfl⟩:=List.mem_map.1 hr
 exact ⟨h.2.2 x hx,(h.1.2 x hx).2⟩
def Ocb (W:World) (B B2:Nat) (v:Value) (l:List (Value×Row)):Prop:=W.ownsRow B 58 1 v l.length (l.map Prod.fst)/\∀ x∈l,OwnC W B2 x.1 x.2
theorem Ocb.nil (W:World) (B B2:Nat):Ocb W B B2 (.slice none 0 0) []:=⟨World.ownsRow_nil _ _ _ _,fun x hx=>by simp at hx⟩
theorem Ocb.kept {W W':World} {B B2:Nat} {v:Value} {l:List (Value×Row)} (h:Ocb W B B2 v l) (hb:Below W.heap.size W W'):Ocb W' B B2 v l:=⟨own_kept h.1 hb,fun x hx=>(h.2 x hx).kept hb⟩
theorem Ocb.oc {W:World} {B B2 B':Nat} {v:Value} {l:List (Value×Row)} (h:Ocb W B B2 v l) (h1:B'<=B) (h2:B'<=B2):Oc W B' v l:=⟨own_lower h.1 h1,fun x hx=>OwnC.low' (h.2 x hx) h2⟩
theorem run_append_ob {w:World} (ty:TypeId) (base base2:Nat) (v vx:Value) (l0 l:List (Value×Row)) (hown:Ocb w base base2 v l0) (hsl:Sv w vx (l.map Prod.fst)) (hr:∀ x∈l,OwnC w base2 x.1 x.2) (hbytes:l0.length+l.length<=1000000) (hbase:base<=w.heap.size) :
  ∃ v' w',(Builtin.append_ #[26,26] ty #[v,vx]).run Tryz.prog w=.ok v' w'/\Ocb w' base base2 v' (l0++l)/\Below base w w':=by
 obtain ⟨i0,hi,hz0,hz1',hz2⟩:=info_parts info58
 obtain ⟨ad,cap,rfl,h1,h2,h3,h4⟩:=hsl
 rw [List.length_map] at *
 have one:∀ x∈l.map Prod.fst,x.oneCell'=true:=fun x hx=>by
  obtain ⟨y,hy,rfl⟩:=List.mem_map.1 hx
  obtain ⟨a,n,c,e⟩:=own_slice3 (hr y hy)
  rw [e]
  rfl
 cases ad with
 | none =>
  have hc:=h3 rfl
  subst hc
  have hl:l=[]:=List.eq_nil_of_length_eq_zero (by omega)
  subst hl
  have hr:=run_append_owned_none (P:=Tryz.prog) (w:=w) base 26 ty 58 i0 1 Tryz.underlying26 hi v l0.length (l0.map Prod.fst) hown.1
  refine ⟨v,w,hr,by rw [List.append_nil];exact hown,Below.refl _ _⟩
 | some ad =>
  obtain ⟨v',w',hrun,o1,g1,_,e1⟩:=run_append_own_at (P:=Tryz.prog) w base 26 ty 58 i0 (.slice none 0 0) 1 24 Tryz.underlying26 hi hz0 hz1' hz2 rfl (by decide) v l0.length (l0.map Prod.fst) hown.1 ad l.length cap (l.map Prod.fst) (by rw [List.length_map];omega)
   (fun j u hu=>by
    have hj:j<l.length:=by
     have:=(List.getElem?_eq_some_iff.1 hu).1
     rwa [List.length_map] at this
    obtain ⟨b,off,h5,_,h6⟩:=h4 (by omega)
    cases h5
    rw [addj]
    exact h6 j u hu) one (by unfold maxLen;omega) (by omega) hbase
  have keep:∀ y:Value×Row,OwnC w base2 y.1 y.2->OwnC w' base2 y.1 y.2:=fun y hy =>
   ownG_same hy fun k hk=>g1.block k (ownG_block hy hk).2.1 (fun e=>ownG_types hy hown.1 (by decide) hk e.symm)
  refine ⟨v',w',hrun,⟨?_,fun y hy=>?_⟩,(Below.refl base w).grown g1 hbase (fun k hk=>(hown.1.lt k hk).1)⟩
  ·rw [List.length_append,List.map_append]
   exact o1
  ·rcases List.mem_append.1 hy with hy | hy
   ·exact keep y (hown.2 y hy)
   ·exact keep y (hr y hy)
theorem op_append_ob {w:World} {o:Oper} {a:Act} {K:Act->World->Prop} {Q:Exit->Act->World->Prop} (s x:Operand)
  (ho:o.op=.call { callee:=.builtin .append,args:=#[s,x],argTypes:=#[26,26] })
  (base base2:Nat) (v vx:Value) (l0 l:List (Value×Row)) (hs:a.eval s=v) (hown:Ocb w base base2 v l0) (hx:a.eval x=vx) (hsl:Sv w vx (l.map Prod.fst)) (hr:∀ x∈l,OwnC w base2 x.1 x.2) (hbytes:l0.length+l.length<=1000000) (hbase:base<=w.heap.size)
  (h:∀ v' w',Ocb w' base base2 v' (l0++l)->Below base w w'->K (a.put o.dst v') w'):Oper.wp Tryz.prog o a w K Q:=by
 obtain ⟨v',w',hr,h2,h3⟩:=run_append_ob o.type base base2 v vx l0 l hown hsl hr hbytes hbase
 unfold Oper.wp execOp
 simp only [ho,resolve,invoke,builtin,Sem.run_bind,Sem.run_pure,Result.andThen_ok,List.map_toArray,List.map_cons,List.map_nil,hs,hx,hr]
 exact h v' w' h2 h3
theorem wpList_append_ob {w:World} {ops:Array Oper} {rest:List Oper} {o:Oper} {a:Act} {Q:Exit->Act->World->Prop} (hgd:o.guard=none) (s x:Operand)
  (ho:o.op=.call { callee:=.builtin .append,args:=#[s,x],argTypes:=#[26,26] })
  (base base2:Nat) (v vx:Value) (l0 l:List (Value×Row)) (hs:a.eval s=v) (hown:Ocb w base base2 v l0) (hx:a.eval x=vx) (hsl:Sv w vx (l.map Prod.fst)) (hr:∀ x∈l,OwnC w base2 x.1 x.2) (hbytes:l0.length+l.length<=1000000) (hbase:base<=w.heap.size)
  (h:∀ v' w',Ocb w' base base2 v' (l0++l)->Below base w w'->wpList Tryz.prog ops Q rest (a.put o.dst v') w') :
  wpList Tryz.prog ops Q (o::rest) a w :=
 wpList_plain hgd fun K hK=>op_append_ob s x ho base base2 v vx l0 l hs hown hx hsl hr hbytes hbase fun v' w' h1 h2=>hK _ _ (h v' w' h1 h2)
theorem lawFit_any {w:World} {v fv:Value} {fs:List Fd} {rs:List Row} (hs:Sr w v rs) (hf:Sf w fv fs) (ho:∀ r∈rs,∀ c∈r,Okc c) (id:Nat) (most:Nat) :
  Calls Tryz.prog 16 #[.agg #[.int .u32 (id:Int),fv],v,.int .i64 (most:Int)] w fun e w'=>(∃ v' l,e=.returned v'/\Oc w' w.heap.size v' l/\FitL fs most l)/\Below w.heap.size w w':=by
 obtain ⟨fa,fc,rfl,_,_⟩:=hf.form
 obtain ⟨a,cap,rfl,_,_⟩:=hs.form
 have hb0:=below_one w (.cells #[.int .u32 (id:Int),.slice fa fs.length fc] 25)
 obtain ⟨x0,x1⟩:=cell_new2 w (.int .u32 (id:Int)) (.slice fa fs.length fc) 25
 have hz0:(w.alloc (.cells #[.int .u32 (id:Int),.slice fa fs.length fc] 25)).heap.size=w.heap.size+1:=World.size_alloc _ _
 generalize hA:w.alloc (.cells #[.int .u32 (id:Int),.slice fa fs.length fc] 25)=A at *
 have HT:Hid (∀ U,Below A.heap.size A U->U.cell? ⟨w.heap.size,0,none⟩=some (.int .u32 (id:Int))/\U.cell? ⟨w.heap.size,1,none⟩=some (.slice fa fs.length fc)):=hidden (fun U hU =>
  ⟨(hU.cell (p:=⟨w.heap.size,0,none⟩) (by show w.heap.size<_;omega)).trans x0,(hU.cell (p:=⟨w.heap.size,1,none⟩) (by show w.heap.size<_;omega)).trans x1⟩)
 have HRW:=hidden (lawRows_any (hs.kept hb0) ho)
 have HS:=hidden (hf.kept hb0)
 have HB0:=hidden hb0
 have HZ0:=hidden hz0
 clear hs hf ho hb0 x0 x1 hz0
 go_enter Tryz.func16,Tryz.ntmps16
 go_wp2_with fail
 try rw [hA]
 clear hA
 refine HRW.out.mono ?_
 rintro e w1 ⟨⟨v1,rs2,rfl,ho1,hf1⟩,hb1⟩
 have HO1:=hidden ho1
 have HB1:=hidden hb1
 have HF1:=hidden hf1
 obtain ⟨a1,c1,rfl,hc1,hc2,_⟩:=ho1.form
 have hc2':c1<=9223372036854775807:=by unfold maxLen at hc2;omega
 have hrl:=hf1.1
 clear ho1 hb1 hf1
 go_wp2_with fail
 go_loopw [7,9] (fun o i wr=>∃ (j:Nat) (l:List (Value×Row)),j<=rs2.length/\i=.int .i64 (j:Int)/\Ocb wr w1.heap.size A.heap.size o l/\l.length<=j/\l.length<=most/\(∀ x∈l,(x.2.length<=20/\∀ c∈x.2,Fine c)/\fitM fs x.2=0)/\Below w1.heap.size w1 wr) (fun _ i _=>rs2.length-(intOf i).toNat)
 case atStart=>exact ⟨0,[],by omega,rfl,Ocb.nil _ _ _,by simp,by simp,fun x hx=>by simp at hx,Below.refl _ _⟩
 case round =>
  obtain ⟨j,l,hj,rfl,how,hlj,hlm,hfl,hbel⟩:=hrel
  have HOW:=hidden how
  have HB:=hidden (below_then HB1.out hbel)
  have HBR:=hidden hbel
  have HFL:=hidden hfl
  have hzr:=(below_then HB1.out hbel).size
  have hzr1:=hbel.size
  obtain ⟨la,lc,rfl,hl1,hl2'⟩:=own_form3 how.1
  clear how hbel hfl
  by_cases hlt:j<rs2.length
  ·have hlt':(j:Int)<(rs2.length:Int):=by omega
   by_cases hm:l.length<most
   ·have hm':(l.length:Int)<(most:Int):=by omega
    obtain ⟨g,rfl,hg,hcell,hoc⟩:=(HO1.out.kept HBR.out).at hlt
    obtain ⟨d0,d1⟩:=HT.out wr HB.out
    have HRJ:=hidden (HF1.out.2 _ (List.getElem_mem hlt))
    obtain ⟨ra,rc,hrv,hrc1,hrc2⟩:=own_form3 hoc
    have HFT:Hid (∀ U,Below wr.heap.size wr U->Calls Tryz.prog 43 #[.agg #[.int .u32 (id:Int),.slice fa fs.length fc],.slice ra rs2[j].2.length rc] U fun e w'=>e=.returned (.int .i64 (fitM fs rs2[j].2:Int))/\Below wr.heap.size wr w'):=hidden (fun U hU=>by
     have h1:=hoc.sc.kept hU
     rw [hrv] at h1
     refine (refFit_any (HS.out.kept (HB.out.trans (hU.mono hzr))) h1 id).mono ?_
     rintro e w' ⟨rfl,hb⟩
     exact ⟨rfl,below_then hU hb⟩)
    rw [hrv] at hcell hoc
    have HOC:=hidden hoc
    have HCE:Hid (∀ U,Below wr.heap.size wr U->U.cell? ⟨g,j,none⟩=some (.slice ra rs2[j].2.length rc)):=hidden (fun U hU=>(hU.cell (p:=⟨g,j,none⟩) hg).trans hcell)
    obtain ⟨F,hF⟩:∃ F,fitM fs rs2[j].2=F:=⟨_,rfl⟩
    rw [hF] at HFT
    have HFE:=hidden hF
    clear hoc hrv hF
    generalize rs2[j].2=r at *
    go_upto_region 6 with fail
    go_cut [30] from 39 (fun v wx=>v=.bool ((F:Int)==0)/\Below wr.heap.size wr wx)
    case first =>
     refine wp_region_noPanic ?_
     go_region_law (first
      | (go_simp;go_at_call 43;refine (HFT.out _ ?_).mono ?_;exact below_drewN (Below.refl wr.heap.size wr) _;rintro e w5 ⟨rfl,hb5⟩;have HB5:=hidden hb5;clear hb5;dsimp only)
      | fail)
     all_goals refine NoPanic.normal ?_
     all_goals go_wp2_with fail
     all_goals go_meet
     all_goals exact ⟨rfl,HB5.out⟩
    case rest =>
    obtain ⟨rfl,hcw⟩:=hcut
    obtain ⟨w5,hw5⟩:∃ w5,w5=wc:=⟨_,rfl⟩
    subst hw5
    have HB5:=hidden hcw
    have hz5:=hcw.size
    have HO5:=hidden (HOW.out.kept hcw)
    have HR5:=hidden (HOC.out.kept hcw)
    have hck:=HCE.out w5 hcw
    clear hcw hcell d0 d1 HOW HOC HFT HCE
    by_cases hF0:F=0
    ·have hFz:((F:Int)==0)=true:=by rw [hF0];rfl
     have HCN:=hidden (cell_new w5 (.slice ra r.length rc) 58)
     go_wp2_with (first | (at_builtin;refine wpList_append_ob rfl _ _ rfl w1.heap.size A.heap.size _ _ l [(.slice ra r.length rc,r)] rfl (HO5.out.kept (below_one _ _)) rfl (sv_lit1 HCN.out (by rw [World.size_alloc];omega)) ?c1 ?c2 ?c3 ?_))
     case c1 =>
      intro x hx
      rw [List.mem_singleton.1 hx]
      exact (HR5.out.kept (below_one _ _)).low' (Nat.le_refl _)
     case c2=>simp only [List.length_singleton];omega
     case c3=>rw [World.size_alloc];omega
     intro v' w6 o6 b6
     have HO6:=hidden o6
     have HB6:=hidden (((HBR.out.trans (HB5.out.mono hzr1)).alloc (Nat.le_trans hzr1 hz5) _).trans b6)
     clear o6 b6
     go_wp2_with fail
     go_roundw
     case rel =>
      refine ⟨j+1,_,by omega,by go_num,HO6.out,by rw [List.length_append];simp only [List.length_singleton];omega,by rw [List.length_append];simp only [List.length_singleton];omega,fun x hx=>?_,HB6.out⟩
      rcases List.mem_append.1 hx with hx | hx
      ·exact HFL.out x hx
      ·rw [List.mem_singleton.1 hx];exact ⟨HRJ.out,HFE.out.trans hF0⟩
     case measure=>simp [intOf];omega
    ·have hFz:((F:Int)==0)=false:=by simp;omega
     have HB6:=hidden (HBR.out.trans (HB5.out.mono hzr1))
     go_wp2_with fail
     go_roundw
     case rel=>exact ⟨j+1,l,by omega,by go_num,HO5.out,by omega,hlm,HFL.out,HB6.out⟩
     case measure=>simp [intOf];omega
   ·have hm':¬ (l.length:Int)<(most:Int):=by omega
    have hzw:w.heap.size<=A.heap.size:=by have:=HZ0.out;omega
    have hzz:w.heap.size<=w1.heap.size:=Nat.le_trans hzw HB1.out.size
    have HF10:Hid (FitL fs most l):=hidden ⟨⟨by omega,fun x hx=>(HFL.out x hx).1⟩,hlm,fun x hx=>(HFL.out x hx).2⟩
    go_wp2_with fail
    go_ret
    first | exact ⟨⟨_,_,rfl,HOW.out.oc hzz hzw,HF10.out⟩,below_then HB0.out HB.out⟩ | exact ⟨⟨_,rfl,_,HOW.out.oc hzz hzw,HF10.out⟩,below_then HB0.out HB.out⟩
  ·have hge:¬ (j:Int)<(rs2.length:Int):=by omega
   have hzw:w.heap.size<=A.heap.size:=by have:=HZ0.out;omega
   have hzz:w.heap.size<=w1.heap.size:=Nat.le_trans hzw HB1.out.size
   have HF10:Hid (FitL fs most l):=hidden ⟨⟨by omega,fun x hx=>(HFL.out x hx).1⟩,hlm,fun x hx=>(HFL.out x hx).2⟩
   go_wp2_with fail
   go_ret
   first | exact ⟨⟨_,_,rfl,HOW.out.oc hzz hzw,HF10.out⟩,below_then HB0.out HB.out⟩ | exact ⟨⟨_,rfl,_,HOW.out.oc hzz hzw,HF10.out⟩,below_then HB0.out HB.out⟩
end Go.Proofs.YtpljdjmpamjkhaaGreatDoor
set_option linter.unusedVariables false
set_option linter.unusedSimpArgs false
set_option maxRecDepth 100000
set_option maxHeartbeats 4000000
namespace Go.Proofs.YtpljdjmpamjkhaaGreatDoor
open Go.RowKit Go.Lib
theorem sameSch_any {w:World} {v1 v2:Value} {l m:List Fd} (h1:Sf w v1 l) (h2:Sf w v2 m) (i1 i2:Nat) :
  Calls Tryz.prog 18 #[.agg #[.int .u32 (i1:Int),v1],.agg #[.int .u32 (i2:Int),v2]] w fun e w'=>e=.returned (.bool (decide (i1=i2/\l=m)))/\Below w.heap.size w w':=by
 obtain ⟨a,cap,rfl,hcap,hcm⟩:=h1.form
 obtain ⟨a2,cap2,rfl,hcap2,hcm2⟩:=h2.form
 have hbW:Below w.heap.size w ((w.alloc (.cells #[.int .u32 (i1:Int),.slice a l.length cap] 25)).alloc (.cells #[.int .u32 (i2:Int),.slice a2 m.length cap2] 25)):=((Below.refl _ _).alloc (Nat.le_refl _) _).alloc (by rw [World.size_alloc];omega) _
 have HBW:=hidden hbW
 have HS1:=hidden (h1.kept hbW)
 have HS2:=hidden (h2.kept hbW)
 obtain ⟨c0,c1⟩:=cell_new2 w (.int .u32 (i1:Int)) (.slice a l.length cap) 25
 have hz0:(w.alloc (.cells #[.int .u32 (i1:Int),.slice a l.length cap] 25)).heap.size=w.heap.size+1:=World.size_alloc _ _
 have hb1:=below_one (w.alloc (.cells #[.int .u32 (i1:Int),.slice a l.length cap] 25)) (.cells #[.int .u32 (i2:Int),.slice a2 m.length cap2] 25)
 have p0:=(hb1.cell (p:=⟨w.heap.size,0,none⟩) (show w.heap.size<_ by omega)).trans c0
 have p1:=(hb1.cell (p:=⟨w.heap.size,1,none⟩) (show w.heap.size<_ by omega)).trans c1
 obtain ⟨e0,e1⟩:=cell_new2 (w.alloc (.cells #[.int .u32 (i1:Int),.slice a l.length cap] 25)) (.int .u32 (i2:Int)) (.slice a2 m.length cap2) 25
 rw [hz0] at e0 e1
 have hzW0:w.heap.size+1<((w.alloc (.cells #[.int .u32 (i1:Int),.slice a l.length cap] 25)).alloc (.cells #[.int .u32 (i2:Int),.slice a2 m.length cap2] 25)).heap.size:=by rw [World.size_alloc,World.size_alloc];omega
 have HZW:=hidden hzW0
 clear h1 h2 hb1 c0 c1 hbW hzW0
 generalize hW:(w.alloc (.cells #[.int .u32 (i1:Int),.slice a l.length cap] 25)).alloc (.cells #[.int .u32 (i2:Int),.slice a2 m.length cap2] 25)=W at *
 by_cases hi:i1=i2
 ·have hi':((i1:Int) != (i2:Int))=false:=by simp [hi]
  by_cases hlen:l.length=m.length
  ·have hne:(((l.length:Nat):Int) != (m.length:Int))=false:=by simp [hlen]
   have HLEN:=hidden hlen
   have HDD:Hid (decide (i1=i2/\l=m)=decide (l=m)):=hidden (by simp [hi])
   generalize decide (i1=i2/\l=m)=DD at *
   clear hlen hi
   go_enter Tryz.func18,Tryz.ntmps18
   go_wp2_with fail
   try rw [hW]
   clear hW
   go_loopw [5] (fun i wr=>∃ j:Nat,j<=l.length/\i=.int .i64 (j:Int)/\l.take j=m.take j/\Below W.heap.size W wr) (fun i _=>l.length-(intOf i).toNat)
   case atStart=>exact ⟨0,by omega,rfl,rfl,Below.refl _ _⟩
   case round =>
    obtain ⟨j,hj,rfl,hsame,hbel⟩:=hrel
    have HSM:=hidden hsame
    have HB:=hidden hbel
    have hzW:w.heap.size+1<W.heap.size:=HZW.out
    have q1:=(hbel.cell (p:=⟨w.heap.size,1,none⟩) (show w.heap.size<_ by omega)).trans p1
    have q2:=(hbel.cell (p:=⟨w.heap.size+1,1,none⟩) hzW).trans e1
    clear hsame hbel
    by_cases hlt:j<l.length
    ·have hltm:j<m.length:=by have:=HLEN.out;omega
     obtain ⟨g,off,rfl,hg,c0,c1,c2,c3⟩:=(HS1.out.kept HB.out).at hlt
     obtain ⟨g2,off2,rfl,hg2,d0,d1,d2,d3⟩:=(HS2.out.kept HB.out).at hltm
     have hlt':(j:Int)<(l.length:Int):=by omega
     have hltm':(j:Int)<(m.length:Int):=by omega
     have hjn:(0:Int)<=(j:Int):=by omega
     have HNX:=hidden (fun he=>take_succ_eq hlt hltm HSM.out he)
     have HNE:Hid (l[j]≠m[j]->decide (l=m)=false):=hidden (fun h=>decide_eq_false (fun e=>h (by subst e;rfl)))
     generalize l[j]=c at *
     generalize m[j]=d at *
     obtain ⟨ck,cn,cs,cb⟩:=c
     obtain ⟨dk,dn,ds,db⟩:=d
     simp only at *
     by_cases hk:ck=dk
     ·subst hk
      by_cases hn:cn=dn
      ·subst hn
       by_cases hs:cs=ds
       ·subst hs
        by_cases hbb:cb=db
        ·subst hbb
         have HN':=hidden (HNX.out rfl)
         clear HNX HNE
         go_wp2_with fail
         go_quiet (fail)
         go_wp2_with fail
         go_roundw
         case rel=>exact ⟨j+1,by omega,by go_num,HN'.out,below_drewN HB.out _⟩
         case measure=>simp [intOf];omega
        ·have HNE':=hidden (HNE.out (fun e=>hbb (by have:=congrArg (fun t=>t.2.2.2) e;simpa using this)))
         have hnn:(cb==db)=false:=by cases cb<;>cases db<;>simp_all
         clear HNX HNE hbb
         go_wp2_with fail
         go_quiet (fail)
         go_wp2_with fail
         go_ret
         rw [HDD.out,HNE'.out]
         exact ⟨rfl,below_then HBW.out (below_drewN HB.out _)⟩
       ·have HNE':=hidden (HNE.out (fun e=>hs (by have:=congrArg (fun t=>t.2.2.1) e;simpa using this)))
        have hnn:((cs:Int)==(ds:Int))=false:=beq_eq_false_iff_ne.2 (by omega)
        clear HNX HNE hs
        go_wp2_with fail
        go_quiet (fail)
        go_wp2_with fail
        go_ret
        rw [HDD.out,HNE'.out]
        exact ⟨rfl,below_then HBW.out (below_drewN HB.out _)⟩
      ·have HNE':=hidden (HNE.out (fun e=>hn (by have:=congrArg (fun t=>t.2.1) e;simpa using this)))
       have hnn:(cn.toList==dn.toList)=false:=by rw [str_eq];exact decide_eq_false hn
       clear HNX HNE hn
       go_wp2_with fail
       go_quiet (fail)
       go_wp2_with fail
       go_ret
       rw [HDD.out,HNE'.out]
       exact ⟨rfl,below_then HBW.out (below_drewN HB.out _)⟩
     ·have HNE':=hidden (HNE.out (fun e=>hk (by have:=congrArg (fun t=>t.1) e;simpa using this)))
      have hkk:((ck:Int)==(dk:Int))=false:=beq_eq_false_iff_ne.2 (by omega)
      clear HNX HNE hk
      go_wp2_with fail
      go_quiet (fail)
      go_wp2_with fail
      go_ret
      rw [HDD.out,HNE'.out]
      exact ⟨rfl,below_then HBW.out (below_drewN HB.out _)⟩
    ·obtain rfl:j=l.length:=by omega
     have HEQ:Hid (decide (l=m)=true):=hidden (decide_eq_true (by
      have:=HSM.out
      rw [List.take_length] at this
      rw [this,HLEN.out,List.take_length]))
     have hge:¬ ((l.length:Nat):Int)<(l.length:Int):=by omega
     go_wp2_with fail
     go_ret
     rw [HDD.out,HEQ.out]
     exact ⟨rfl,below_then HBW.out HB.out⟩
  ·have hne:(((l.length:Nat):Int) != (m.length:Int))=true:=by
    have:(l.length:Int)≠(m.length:Int):=by omega
    simpa using this
   have HEQ:Hid (decide (i1=i2/\l=m)=false):=hidden (decide_eq_false (fun e=>hlen (by rw [e.2])))
   clear hlen hi
   go_enter Tryz.func18,Tryz.ntmps18
   go_wp2_with fail
   go_ret
   rw [HEQ.out]
   refine ⟨rfl,?_⟩
   first | exact HBW.out | (rw [hW];exact HBW.out)
 ·have hi':((i1:Int) != (i2:Int))=true:=by
   have:(i1:Int)≠(i2:Int):=by omega
   simpa using this
  have HEQ:Hid (decide (i1=i2/\l=m)=false):=hidden (decide_eq_false (fun e=>hi e.1))
  clear hi
  go_enter Tryz.func18,Tryz.ntmps18
  go_wp2_with fail
  go_ret
  rw [HEQ.out]
  refine ⟨rfl,?_⟩
  first | exact HBW.out | (rw [hW];exact HBW.out)
end Go.Proofs.YtpljdjmpamjkhaaGreatDoor
