/- Contracts: flag, packField, Pack. Appends of bytes, at an operation wherever it stands. -/
import Derived.Test.YtpljdjmpamjkhaaGreatDoorZap
import Derived.Lib.AppendStr
import Derived.Test.YtpljdjmpamjkhaaGreatDoorZan
import Derived.Maps.OwnIn
import Derived.Deep.AppendLies
import Derived.Deep.RegionHeld3
set_option linter.unusedVariables false
set_option linter.unusedSimpArgs false
set_option maxRecDepth 100000
set_option maxHeartbeats 4000000
namespace Go.Proofs.YtpljdjmpamjkhaaGreatDoor
open Go.RowKit Go.Lib
theorem wpList_append_str {w:World} {ops:Array Oper} {rest:List Oper} {o:Oper} {a:Act} {Q:Exit->Act->World->Prop} (hgd:o.guard=none) (s x:Operand)
  (ho:o.op=.call { callee:=.builtin .append,args:=#[s,x],argTypes:=#[30,9] })
  (base:Nat) (v:Value) (l0:List Nat) (z:ByteArray) (hs:a.eval s=v) (hown:OwnB w base v l0) (hx:a.eval x=.string z)
  (hbytes:l0.length+z.size<=140737488355328) (hbase:base<=w.heap.size)
  (h:∀ v' w',OwnB w' base v' (l0++natsT z)->Below base w w'->wpList Tryz.prog ops Q rest (a.put o.dst v') w') :
  wpList Tryz.prog ops Q (o::rest) a w:=by
 obtain ⟨i0,hi,hz0,hz1',hz2⟩:=info_parts info5
 unfold OwnB at *
 refine wpList_append_own_string (w:=w) hgd s x 30 9 ho base 5 i0 Tryz.underlying30 Tryz.underlying9 hi hz0 hz1' hz2 v l0.length (vals .u8 l0) hs hown z hx (by unfold maxLen;omega) (by exact hbytes) hbase ?_
 intro v' w' o1 g1 _
 refine h v' w' ?_ ((Below.refl base w).grown g1 hbase (fun k hk=>(hown.lt k hk).1))
 have e:strCells z=vals .u8 (natsT z):=by
  unfold strCells vals natsT
  rw [ByteArray.toList_eq]
  simp [List.map_map,Function.comp_def]
 rw [e] at o1
 rw [vals_append,List.length_append,natsT_len]
 exact o1
theorem flag_any (b:Bool) (w:World):Calls Tryz.prog 166 #[.bool b] w fun e w'=>e=.returned (.int .u64 ((flagN b:Nat):Int))/\w'=w:=by
 cases b
 all_goals
  go_enter Tryz.func166,Tryz.ntmps166
  go_wp2
  go_ret
  exact ⟨rfl,rfl⟩
theorem uv_le (n:Nat) (h:n<18446744073709551616):(uv n).length<=10:=uv_ten h
theorem packField_any (f:Fd) (hf:Okf f) (hs:f.2.1.size<5000) (w:World):Calls Tryz.prog 120 #[aggF f] w (Told w (packF f)):=by
 unfold aggF
 obtain ⟨i,n,k,nd⟩:=f
 have h1:i<4294967296:=hf.1
 have h2:k<256:=hf.2
 simp only at *
 have HP:Hid (packF (i,n,k,nd)=uv i++uv n.size++natsT n++uv k++uv (flagN nd)):=hidden rfl
 have hfl:flagN nd<2:=by unfold flagN;split<;>omega
 have HV1:=hidden (vput_told i (by omega))
 have HV2:=hidden (vput_told n.size (by omega))
 have HV3:=hidden (vput_told k (by omega))
 have HV4:=hidden (vput_told (flagN nd) (by omega))
 have HFL:=hidden (flag_any nd)
 have u1:=uv_le i (by omega)
 have u2:=uv_le n.size (by omega)
 have u3:=uv_le k (by omega)
 have u4:=uv_le (flagN nd) (by omega)
 have hnl:=natsT_len n
 have HB0:=hidden (below_one w (.cells #[.int .u32 (i:Int),.string n,.int .u8 (k:Int),.bool nd] 81))
 have hz:w.heap.size<(w.alloc (.cells #[.int .u32 (i:Int),.string n,.int .u8 (k:Int),.bool nd] 81)).heap.size:=by rw [World.size_alloc];omega
 have HT:Hid (∀ U,Below (w.alloc (.cells #[.int .u32 (i:Int),.string n,.int .u8 (k:Int),.bool nd] 81)).heap.size (w.alloc (.cells #[.int .u32 (i:Int),.string n,.int .u8 (k:Int),.bool nd] 81)) U->U.cell? ⟨w.heap.size,0,none⟩=some (.int .u32 (i:Int))/\U.cell? ⟨w.heap.size,1,none⟩=some (.string n)/\U.cell? ⟨w.heap.size,2,none⟩=some (.int .u8 (k:Int))/\U.cell? ⟨w.heap.size,3,none⟩=some (.bool nd)):=hidden (fun U h=>by
  obtain ⟨c0,c1,c2,c3⟩:=cell_new4 w (.int .u32 (i:Int)) (.string n) (.int .u8 (k:Int)) (.bool nd) 81
  exact ⟨(h.cell (p:=⟨w.heap.size,0,none⟩) hz).trans c0,(h.cell (p:=⟨w.heap.size,1,none⟩) hz).trans c1,(h.cell (p:=⟨w.heap.size,2,none⟩) hz).trans c2,(h.cell (p:=⟨w.heap.size,3,none⟩) hz).trans c3⟩)
 generalize hW:w.alloc (.cells #[.int .u32 (i:Int),.string n,.int .u8 (k:Int),.bool nd] 81)=W at *
 obtain ⟨c0,c1,c2,c3⟩:=HT.out W (Below.refl _ _)
 clear hf
 generalize uv i=p1 at *
 generalize uv n.size=p2 at *
 generalize uv k=p3 at *
 generalize uv (flagN nd)=p4 at *
 generalize flagN nd=fl at *
 go_enter Tryz.func120,Tryz.ntmps120
 go_wp2_with fail
 try rw [hW]
 clear hW
 refine (HV1.out _).mono ?_
 rintro e w1 ⟨⟨v1,rfl,o1⟩,hb1⟩
 have HO1:=hidden o1
 have HX1:=hidden hb1
 clear o1 hb1 c0 c1 c2 c3
 obtain ⟨c0,c1,c2,c3⟩:=HT.out _ HX1.out
 go_wp2_with fail
 refine (HV2.out _).mono ?_
 rintro e w2 ⟨⟨v2,rfl,o2⟩,hb2⟩
 have HO1k:=hidden (HO1.out.kept hb2)
 have HO2:=hidden o2.sv
 have HX2:=hidden (below_then HX1.out hb2)
 clear o2 hb2 c0 c1 c2 c3
 obtain ⟨c0,c1,c2,c3⟩:=HT.out _ HX2.out
 go_wp2_with (first | (at_builtin;refine wpList_append_sv rfl _ _ rfl W.heap.size _ _ p1 p2 rfl HO1k.out rfl HO2.out ?d1 ?d2 ?_))
 case d1=>omega
 case d2=>exact HX2.out.size
 intro v3 w3 o3 hb3
 have HO3:Hid (OwnB w3 W.heap.size v3 (p1++p2)):=hidden (by simpa using o3)
 have HX3:=hidden (HX2.out.trans hb3)
 clear o3 hb3 c0 c1 c2 c3
 obtain ⟨c0,c1,c2,c3⟩:=HT.out _ HX3.out
 go_wp2_with (first | (at_builtin;refine wpList_append_str rfl _ _ rfl W.heap.size _ (p1++p2) n rfl HO3.out rfl ?d3 ?d4 ?_))
 case d3=>first | (simp only [List.length_append];omega) | (simp;omega) | omega
 case d4=>exact HX3.out.size
 intro v4 w4 o4 hb4
 have HO4:Hid (OwnB w4 W.heap.size v4 (p1++p2++natsT n)):=hidden (by simpa using o4)
 have HX4:=hidden (HX3.out.trans hb4)
 clear o4 hb4 c0 c1 c2 c3
 obtain ⟨c0,c1,c2,c3⟩:=HT.out _ HX4.out
 go_wp2_with fail
 refine (HV3.out _).mono ?_
 rintro e w5 ⟨⟨v5,rfl,o5⟩,hb5⟩
 have HO4k:=hidden (HO4.out.kept hb5)
 have HO5:=hidden o5.sv
 have HX5:=hidden (below_then HX4.out hb5)
 clear o5 hb5 c0 c1 c2 c3
 obtain ⟨c0,c1,c2,c3⟩:=HT.out _ HX5.out
 go_wp2_with (first | (at_builtin;refine wpList_append_sv rfl _ _ rfl W.heap.size _ _ (p1++p2++natsT n) p3 rfl HO4k.out rfl HO5.out ?d5 ?d6 ?_))
 case d5=>first | (simp only [List.length_append];omega) | (simp;omega) | omega
 case d6=>exact HX5.out.size
 intro v6 w6 o6 hb6
 have HO6:Hid (OwnB w6 W.heap.size v6 (p1++p2++natsT n++p3)):=hidden (by simpa using o6)
 have HX6:=hidden (HX5.out.trans hb6)
 clear o6 hb6 c0 c1 c2 c3
 obtain ⟨c0,c1,c2,c3⟩:=HT.out _ HX6.out
 go_wp2_with fail
 refine (HFL.out _).mono ?_
 rintro e w7 ⟨rfl,rfl⟩
 go_wp2_with fail
 refine (HV4.out _).mono ?_
 rintro e w8 ⟨⟨v8,rfl,o8⟩,hb8⟩
 have HO6k:=hidden (HO6.out.kept hb8)
 have HO8:=hidden o8.sv
 have HX8:=hidden (below_then HX6.out hb8)
 clear o8 hb8 c0 c1 c2 c3
 go_wp2_with (first | (at_builtin;refine wpList_append_sv rfl _ _ rfl W.heap.size _ _ (p1++p2++natsT n++p3) p4 rfl HO6k.out rfl HO8.out ?d7 ?d8 ?_))
 case d7=>first | (simp only [List.length_append];omega) | (simp;omega) | omega
 case d8=>exact HX8.out.size
 intro v9 w9 o9 hb9
 have HO9:Hid (OwnB w9 W.heap.size v9 (p1++p2++natsT n++p3++p4)):=hidden (by simpa using o9)
 have HX9:=hidden (HX8.out.trans hb9)
 clear o9 hb9
 go_wp2_with fail
 go_ret
 rw [HP.out]
 exact ⟨⟨_,rfl,own_low HO9.out HB0.out.size⟩,below_then HB0.out HX9.out⟩
theorem szs_take_size {l:List Fd} (hz:szs l<5000) {k:Nat} (hk:k<l.length):l[k].2.1.size<5000:=by
 have:=szs_mem (List.getElem_mem hk)
 omega
theorem packL_take_len {l:List Fd} (ho:∀ f∈l,Okf f) (hl:l.length<=100) (hz:szs l<5000) (k:Nat):(packL (l.take k)).length<=10000:=by
 have h1:=packL_len (l:=l.take k) (fun f hf=>ho f (List.mem_of_mem_take hf)) (Nat.lt_of_le_of_lt (szs_take_le l k) hz)
 have h2:=szs_take_le l k
 have h3:(l.take k).length<=100:=by rw [List.length_take];omega
 omega
theorem pack_any {w:World} {v:Value} {l:List Fd} (hs:Sf w v l) (ho:∀ f∈l,Okf f) (hl:l.length<=100) (hz:szs l<5000) (id:Nat) (hid:id<4294967296) :
  Calls Tryz.prog 80 #[.agg #[.int .u32 (id:Int),v]] w (Told w (packM id l)):=by
 obtain ⟨a,cap,rfl,hcap,hcm⟩:=hs.form
 have HOK:=hidden ho
 have HP:Hid (packM id l=uv id++uv l.length++packL l):=hidden rfl
 have HPL:=hidden (packL_take_len ho hl hz)
 have HSZ:=hidden (fun k=>szs_take_size (k:=k) hz)
 have HV1:=hidden (vput_told id (by omega))
 have HV2:=hidden (vput_told l.length (by omega))
 have u1:=uv_le id (by omega)
 have u2:=uv_le l.length (by omega)
 have hb0:=below_one w (.cells #[.int .u32 (id:Int),.slice a l.length cap] 25)
 have hzz:w.heap.size<(w.alloc (.cells #[.int .u32 (id:Int),.slice a l.length cap] 25)).heap.size:=by rw [World.size_alloc];omega
 have HT:Hid (∀ U,Below (w.alloc (.cells #[.int .u32 (id:Int),.slice a l.length cap] 25)).heap.size (w.alloc (.cells #[.int .u32 (id:Int),.slice a l.length cap] 25)) U->Sf U (.slice a l.length cap) l/\U.cell? ⟨w.heap.size,0,none⟩=some (.int .u32 (id:Int))/\U.cell? ⟨w.heap.size,1,none⟩=some (.slice a l.length cap)):=hidden (fun U h=>by
  obtain ⟨c0,c1⟩:=cell_new2 w (.int .u32 (id:Int)) (.slice a l.length cap) 25
  exact ⟨(hs.kept hb0).kept h,(h.cell (p:=⟨w.heap.size,0,none⟩) hzz).trans c0,(h.cell (p:=⟨w.heap.size,1,none⟩) hzz).trans c1⟩)
 have HB0:=hidden hb0
 clear hs hb0 ho
 generalize hW:w.alloc (.cells #[.int .u32 (id:Int),.slice a l.length cap] 25)=W at *
 obtain ⟨_,c0,c1⟩:=HT.out W (Below.refl _ _)
 generalize uv id=p1 at *
 generalize uv l.length=p2 at *
 go_enter Tryz.func80,Tryz.ntmps80
 go_wp2_with fail
 try rw [hW]
 clear hW
 refine (HV1.out _).mono ?_
 rintro e w1 ⟨⟨v1,rfl,o1⟩,hb1⟩
 have HO1:=hidden o1
 have HX1:=hidden hb1
 clear o1 hb1 c0 c1
 obtain ⟨_,c0,c1⟩:=HT.out _ HX1.out
 go_wp2_with fail
 refine (HV2.out _).mono ?_
 rintro e w2 ⟨⟨v2,rfl,o2⟩,hb2⟩
 have HO1k:=hidden (HO1.out.kept hb2)
 have HO2:=hidden o2.sv
 have HX2:=hidden (below_then HX1.out hb2)
 clear o2 hb2 c0 c1
 go_wp2_with (first | (at_builtin;refine wpList_append_sv rfl _ _ rfl W.heap.size _ _ p1 p2 rfl HO1k.out rfl HO2.out ?d1 ?d2 ?_))
 case d1=>omega
 case d2=>exact HX2.out.size
 intro v3 w3 o3 hb3
 have HO3:=hidden o3
 have HX3:=hidden (HX2.out.trans hb3)
 clear o3 hb3
 obtain ⟨_,c0,c1⟩:=HT.out _ HX3.out
 go_wp2_with fail
 clear c0 c1
 go_loopw [3,20] (fun b i wr=>∃ k:Nat,k<=l.length/\i=.int .i64 (k:Int)/\OwnB wr W.heap.size b (p1++p2++packL (l.take k))/\Below W.heap.size W wr) (fun _ i _=>l.length-(intOf i).toNat)
 case atStart=>exact ⟨0,by omega,rfl,by simpa [packL] using HO3.out,HX3.out⟩
 case round =>
  obtain ⟨k,hk,rfl,hown,hbel⟩:=hrel
  have HO:=hidden hown
  have HB:=hidden hbel
  have hzr:=hbel.size
  clear hown hbel
  by_cases hlt:k<l.length
  ·obtain ⟨b,off,rfl,hb,x0,x1,x2,x3⟩:=(HT.out _ HB.out).1.at hlt
   have hlt':(k:Int)<(l.length:Int):=by omega
   have HST:=hidden (packL_step hlt)
   have HPF:=hidden (packField_any l[k] (HOK.out _ (List.getElem_mem hlt)) (HSZ.out k hlt))
   have hplen:=HPL.out k
   have hpf:(packF l[k]).length<=5100:=by
    have h1:=packF_len (HOK.out _ (List.getElem_mem hlt)) (by have:=HSZ.out k hlt;omega)
    have h2:=HSZ.out k hlt
    omega
   generalize packF l[k]=PF at *
   generalize packL (l.take k)=PL at *
   generalize l[k]=f at *
   obtain ⟨f0,f1,f2,f3⟩:=f
   unfold aggF at HPF
   simp only at *
   have HBN:=hidden (below_one wr (.cells #[.int .u32 (f0:Int),.string f1,.int .u8 (f2:Int),.bool f3] 81))
   go_wp2_with fail
   refine (HPF.out _).mono ?_
   rintro e w5 ⟨⟨v5,rfl,o5⟩,hb5⟩
   have hbT:=below_then HBN.out hb5
   have HO5:=hidden (HO.out.kept hbT)
   have HO6:=hidden o5.sv
   have HX5:=hidden (below_then HB.out hbT)
   clear o5 hb5 hbT x0 x1 x2 x3
   go_wp2_with (first | (at_builtin;refine wpList_append_sv rfl _ _ rfl W.heap.size _ _ (p1++p2++PL) PF rfl HO5.out rfl HO6.out ?d3 ?d4 ?_))
   case d3=>first | (simp only [List.length_append];omega) | (simp;omega) | omega
   case d4=>exact HX5.out.size
   intro v7 w7 o7 hb7
   have HO7:Hid (OwnB w7 W.heap.size v7 (p1++p2++PL++PF)):=hidden (by simpa using o7)
   have HX7:=hidden (HX5.out.trans hb7)
   clear o7 hb7
   go_wp2_with fail
   go_roundw
   case rel=>exact ⟨k+1,by omega,by go_num,by rw [HST.out,← List.append_assoc];exact HO7.out,HX7.out⟩
   case measure=>simp [intOf];omega
  ·obtain rfl:k=l.length:=by omega
   have hge:¬ ((l.length:Nat):Int)<(l.length:Int):=by omega
   rw [List.take_length] at HO
   go_wp2_with fail
   go_ret
   rw [HP.out]
   exact ⟨⟨_,rfl,own_low HO.out HB0.out.size⟩,below_then HB0.out HB.out⟩
end Go.Proofs.YtpljdjmpamjkhaaGreatDoor
set_option linter.unusedVariables false
set_option linter.unusedSimpArgs false
namespace Go.Proofs.YtpljdjmpamjkhaaGreatDoor
open Go.RowKit Go.Lib
theorem run_append_sv {w:World} (ty:TypeId) (base:Nat) (v vx:Value) (l0 l:List Nat) (hown:OwnB w base v l0) (hsl:Sv w vx (vals .u8 l)) (hbytes:l0.length+l.length<=140737488355328) (hbase:base<=w.heap.size) :
  ∃ v' w',(Builtin.append_ #[30,30] ty #[v,vx]).run Tryz.prog w=.ok v' w'/\OwnB w' base v' (l0++l)/\w.grownBy w' v.ownBlock/\(v'.ownBlock=v.ownBlock∨v'.ownBlock=some w.heap.size):=by
 obtain ⟨i0,hi,hz0,hz1',hz2⟩:=info_parts info5
 unfold OwnB at *
 obtain ⟨ad,cap,rfl,h1,h2,h3,h4⟩:=hsl
 rw [vals_length] at *
 cases ad with
 | none =>
  have hc:=h3 rfl
  subst hc
  have hl:l=[]:=List.eq_nil_of_length_eq_zero (by omega)
  subst hl
  have hr:=run_append_owned_none (P:=Tryz.prog) (w:=w) base 30 ty 5 i0 1 Tryz.underlying30 hi v l0.length (vals .u8 l0) hown
  refine ⟨v,w,hr,by rw [List.append_nil];exact hown,⟨rfl,rfl,rfl,Nat.le_refl _,fun _ _ _=>rfl⟩,Or.inl rfl⟩
 | some ad =>
  obtain ⟨v',w',hr,o1,g1,_,e1⟩:=run_append_own_at (P:=Tryz.prog) w base 30 ty 5 i0 (.int .u8 0) 1 1 Tryz.underlying30 hi hz0 hz1' hz2 rfl (by decide) v l0.length (vals .u8 l0) hown ad l.length cap (vals .u8 l) (by rw [vals_length];omega)
   (fun j u hu=>by
    have hj:j<l.length:=by
     have:=(List.getElem?_eq_some_iff.1 hu).1
     rwa [vals_length] at this
    obtain ⟨b,off,h5,_,h6⟩:=h4 (by omega)
    cases h5
    rw [addj]
    exact h6 j u hu) (vals_oneCell _ _) (by unfold maxLen;omega) (by omega) hbase
  refine ⟨v',w',hr,?_,g1,e1⟩
  rw [vals_append,List.length_append]
  exact o1
theorem grown_below {w w':World} {base:Nat} {v:Value} {l:List Nat} (hown:OwnB w base v l) (hg:w.grownBy w' v.ownBlock) (hbase:base<=w.heap.size):Below base w w' :=
 (Below.refl base w).grown hg hbase (fun k hk=>(hown.lt k hk).1)
theorem op_append_sv {w:World} {o:Oper} {a:Act} {K:Act->World->Prop} {Q:Exit->Act->World->Prop} (s x:Operand)
  (ho:o.op=.call { callee:=.builtin .append,args:=#[s,x],argTypes:=#[30,30] })
  (base:Nat) (v vx:Value) (l0 l:List Nat) (hs:a.eval s=v) (hown:OwnB w base v l0) (hx:a.eval x=vx) (hsl:Sv w vx (vals .u8 l)) (hbytes:l0.length+l.length<=140737488355328) (hbase:base<=w.heap.size)
  (h:∀ v' w',OwnB w' base v' (l0++l)->Below base w w'->w.grownBy w' v.ownBlock->(v'.ownBlock=v.ownBlock∨v'.ownBlock=some w.heap.size)->K (a.put o.dst v') w'):Oper.wp Tryz.prog o a w K Q:=by
 obtain ⟨v',w',hr,h2,h3,h4⟩:=run_append_sv o.type base v vx l0 l hown hsl hbytes hbase
 unfold Oper.wp execOp
 simp only [ho,resolve,invoke,builtin,Sem.run_bind,Sem.run_pure,Result.andThen_ok,List.map_toArray,List.map_cons,List.map_nil,hs,hx,hr]
 exact h v' w' h2 (grown_below hown h3 hbase) h3 h4
theorem step_append_sv {w:World} {ops:Array Oper} {o:Oper} {a:Act} {K:Act->World->Prop} {Q:Exit->Act->World->Prop} {E:Prop} (hgd:o.guard=none) (s x:Operand)
  (ho:o.op=.call { callee:=.builtin .append,args:=#[s,x],argTypes:=#[30,30] })
  (base:Nat) (v vx:Value) (l0 l:List Nat) (hs:a.eval s=v) (hown:OwnB w base v l0) (hx:a.eval x=vx) (hsl:Sv w vx (vals .u8 l)) (hbytes:l0.length+l.length<=140737488355328) (hbase:base<=w.heap.size)
  (h:∀ v' w',OwnB w' base v' (l0++l)->Below base w w'->w.grownBy w' v.ownBlock->(v'.ownBlock=v.ownBlock∨v'.ownBlock=some w.heap.size)->K (a.put o.dst v') w') :
  if Region.wanted o (yielded ops a.tmps)=true then Oper.wp Tryz.prog o a w K Q else E:=by
 have hw:Region.wanted o (yielded ops a.tmps)=true:=by simp [Region.wanted,hgd]
 rw [if_pos hw]
 exact op_append_sv s x ho base v vx l0 l hs hown hx hsl hbytes hbase h
theorem wpList_append_g {w:World} {ops:Array Oper} {rest:List Oper} {o:Oper} {a:Act} {Q:Exit->Act->World->Prop} (hgd:o.guard=none) (s x:Operand)
  (ho:o.op=.call { callee:=.builtin .append,args:=#[s,x],argTypes:=#[30,30] })
  (base:Nat) (v vx:Value) (l0 l:List Nat) (hs:a.eval s=v) (hown:OwnB w base v l0) (hx:a.eval x=vx) (hsl:Sv w vx (vals .u8 l)) (hbytes:l0.length+l.length<=140737488355328) (hbase:base<=w.heap.size)
  (h:∀ v' w',OwnB w' base v' (l0++l)->Below base w w'->w.grownBy w' v.ownBlock->(v'.ownBlock=v.ownBlock∨v'.ownBlock=some w.heap.size)->wpList Tryz.prog ops Q rest (a.put o.dst v') w') :
  wpList Tryz.prog ops Q (o::rest) a w :=
 wpList_plain hgd fun K hK=>op_append_sv s x ho base v vx l0 l hs hown hx hsl hbytes hbase fun v' w' h1 h2 h3 h4=>hK _ _ (h v' w' h1 h2 h3 h4)
theorem step_append_str {w:World} {ops:Array Oper} {o:Oper} {a:Act} {K:Act->World->Prop} {Q:Exit->Act->World->Prop} {E:Prop} (hgd:o.guard=none) (s x:Operand)
  (ho:o.op=.call { callee:=.builtin .append,args:=#[s,x],argTypes:=#[30,9] })
  (base:Nat) (v:Value) (l0:List Nat) (z:ByteArray) (hs:a.eval s=v) (hown:OwnB w base v l0) (hx:a.eval x=.string z) (hbytes:l0.length+z.size<=140737488355328) (hbase:base<=w.heap.size)
  (h:∀ v' w',OwnB w' base v' (l0++natsT z)->Below base w w'->K (a.put o.dst v') w') :
  if Region.wanted o (yielded ops a.tmps)=true then Oper.wp Tryz.prog o a w K Q else E:=by
 have hw:Region.wanted o (yielded ops a.tmps)=true:=by simp [Region.wanted,hgd]
 rw [if_pos hw]
 obtain ⟨i0,hi,hz0,hz1',hz2⟩:=info_parts info5
 have hb:=hown
 unfold OwnB at hown
 obtain ⟨v',w',hr,o1,g1,_⟩:=run_append_own_string (P:=Tryz.prog) (w:=w) base 30 9 o.type 5 i0 Tryz.underlying30 Tryz.underlying9 hi hz0 hz1' hz2 v l0.length (vals .u8 l0) hown z (by unfold maxLen;omega) hbytes hbase
 unfold Oper.wp execOp
 simp only [ho,resolve,invoke,builtin,Sem.run_bind,Sem.run_pure,Result.andThen_ok,List.map_toArray,List.map_cons,List.map_nil,hs,hx,hr]
 refine h v' w' ?_ (grown_below hb g1 hbase)
 have e:strCells z=vals .u8 (natsT z):=by
  unfold strCells vals natsT
  rw [ByteArray.toList_eq]
  simp [List.map_map,Function.comp_def]
 unfold OwnB
 rw [e] at o1
 rw [vals_append,List.length_append,natsT_len]
 exact o1
end Go.Proofs.YtpljdjmpamjkhaaGreatDoor
