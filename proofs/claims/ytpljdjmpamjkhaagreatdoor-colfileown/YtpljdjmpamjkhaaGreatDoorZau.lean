/- Contracts: Best. Texts, values and cells as the program has them, over triples (kind, number, text) with texts as lists of naturals; lists of them. Contracts of layer column: best, pack, bit, ofColumns, the values that are there (wholes, truths, texts), fault. -/
import Derived.Test.YtpljdjmpamjkhaaGreatDoorZam
import Derived.Test.YtpljdjmpamjkhaaGreatDoorZab
import Derived.Test.YtpljdjmpamjkhaaGreatDoorZac
import Derived.Test.YtpljdjmpamjkhaaGreatDoorZad
import Derived.Test.YtpljdjmpamjkhaaGreatDoorZao
import Derived.Test.YtpljdjmpamjkhaaGreatDoorZaj
import Derived.Test.YtpljdjmpamjkhaaGreatDoorZan
import Derived.Deep.Slices
set_option linter.unusedVariables false
set_option linter.unusedSimpArgs false
set_option maxRecDepth 100000
set_option maxHeartbeats 4000000
namespace Go.Proofs.YtpljdjmpamjkhaaGreatDoor
open Go.RowKit Go.Lib
def bst (l:List Int):Nat->List Nat
 | 0=>[]
 | k+1=>bestUp l k
def bestM (l:List Int):List Nat:=if l.length<=256 then bestUp l 4 else []
theorem lit_own (w:World) (x:Nat):OwnB (w.alloc (.cells #[.int .u8 (x:Int)] 5)) w.heap.size (.slice (some ⟨w.heap.size,0,none⟩) 1 1) [x] :=
 World.ownsRow_lit w #[.int .u8 (x:Int)] 1 (Nat.le_refl _) (by unfold maxLen;omega) rfl
theorem bst_step0 (l:List Int):bst l 1=[0]++enc0 l:=rfl
theorem bst_step1 (l:List Int):bst l 2=if (enc1 0 l).length+1<(bst l 1).length then [1]++enc1 0 l else bst l 1:=rfl
theorem bst_step2 (l:List Int):bst l 3=if (enc2 l).length+1<(bst l 2).length then [2]++enc2 l else bst l 2:=rfl
theorem bst_step3 (l:List Int):bst l 4=if (enc3 l).length+1<(bst l 3).length then [3]++enc3 l else bst l 3:=rfl
theorem bst_step4 (l:List Int):bst l 5=if (enc4 l).length+1<(bst l 4).length then [4]++enc4 l else bst l 4:=rfl
theorem best_yes {w:World} {v:Value} {l:List Int} (hs:Sv w v (ivals l)) (hl:l.length<=256) (hi:Is l) :
  Calls Tryz.prog 170 #[v] w fun e w'=>(∃ v',e=.returned (.tuple #[v',.bool true])/\OwnB w' w.heap.size v' (bestUp l 4))/\Below w.heap.size w w':=by
 have HS:=hidden hs
 have HI:=hidden hi
 obtain ⟨a,cap,rfl,hcap,hcm⟩:=hs.form
 have hgt:¬ (l.length:Int) > 256:=by omega
 have HSZ:Hid (∀ k,(bst l k).length<=5131):=by
  intro k
  cases k with
  | zero=>simp [bst]
  | succ k =>
   obtain ⟨c,_,e⟩:=bestUp_form l k
   rw [bst,e]
   have:=(encC_size c hi hl).1
   simp
   omega
 have i0:∀ w,(Instr.index 246 (.agg #[.func (.func 226) #[] #[],.func (.func 227) #[] #[],.func (.func 228) #[] #[],.func (.func 229) #[] #[],.func (.func 230) #[] #[]]) (.int .i64 0)).run Tryz.prog w=.ok (.func (.func 226) #[] #[]) w:=fun _=>by kernel_rfl
 have hz_0:=(encC_size 0 hi hl).1
 have HP0:Hid (∀ W,Sv W (.slice a l.length cap) (ivals l)->Calls Tryz.prog 226 #[.slice a l.length cap] W (Told W (enc0 l))):=fun W h=>putEach_any h hl HI.out
 have i1:∀ w,(Instr.index 246 (.agg #[.func (.func 226) #[] #[],.func (.func 227) #[] #[],.func (.func 228) #[] #[],.func (.func 229) #[] #[],.func (.func 230) #[] #[]]) (.int .i64 1)).run Tryz.prog w=.ok (.func (.func 227) #[] #[]) w:=fun _=>by kernel_rfl
 have hz_1:=(encC_size 1 hi hl).1
 have HP1:Hid (∀ W,Sv W (.slice a l.length cap) (ivals l)->Calls Tryz.prog 227 #[.slice a l.length cap] W (Told W (enc1 0 l))):=fun W h=>putSteps_any h hl HI.out
 have i2:∀ w,(Instr.index 246 (.agg #[.func (.func 226) #[] #[],.func (.func 227) #[] #[],.func (.func 228) #[] #[],.func (.func 229) #[] #[],.func (.func 230) #[] #[]]) (.int .i64 2)).run Tryz.prog w=.ok (.func (.func 228) #[] #[]) w:=fun _=>by kernel_rfl
 have hz_2:=(encC_size 2 hi hl).1
 have HP2:Hid (∀ W,Sv W (.slice a l.length cap) (ivals l)->Calls Tryz.prog 228 #[.slice a l.length cap] W (Told W (enc2 l))):=fun W h=>putRuns_any h hl HI.out
 have i3:∀ w,(Instr.index 246 (.agg #[.func (.func 226) #[] #[],.func (.func 227) #[] #[],.func (.func 228) #[] #[],.func (.func 229) #[] #[],.func (.func 230) #[] #[]]) (.int .i64 3)).run Tryz.prog w=.ok (.func (.func 229) #[] #[]) w:=fun _=>by kernel_rfl
 have hz_3:=(encC_size 3 hi hl).1
 have HP3:Hid (∀ W,Sv W (.slice a l.length cap) (ivals l)->Calls Tryz.prog 229 #[.slice a l.length cap] W (Told W (enc3 l))):=fun W h=>putPlaces_any h hl HI.out
 have i4:∀ w,(Instr.index 246 (.agg #[.func (.func 226) #[] #[],.func (.func 227) #[] #[],.func (.func 228) #[] #[],.func (.func 229) #[] #[],.func (.func 230) #[] #[]]) (.int .i64 4)).run Tryz.prog w=.ok (.func (.func 230) #[] #[]) w:=fun _=>by kernel_rfl
 have hz_4:=(encC_size 4 hi hl).1
 have HP4:Hid (∀ W,Sv W (.slice a l.length cap) (ivals l)->Calls Tryz.prog 230 #[.slice a l.length cap] W (Told W (enc4 l))):=fun W h=>putHeights_any h hl HI.out
 clear hs hcap hcm hi
 go_enter Tryz.func170,Tryz.ntmps170
 go_wp2_with fail
 refine (encoders_any _).mono ?_
 rintro e w1 ⟨rfl,hb1⟩
 have HB1:=hidden hb1
 have hz1:=hb1.size
 clear hb1
 go_wp2_with fail
 go_loopw [4,12] (fun b i wr=>∃ k:Nat,k<=5/\i=.int .i64 (k:Int)/\OwnB wr w.heap.size b (bst l k)/\Below w.heap.size w wr) (fun _ i _=>5-(intOf i).toNat)
 case atStart=>exact ⟨0,by omega,rfl,OwnB.nil _ _,HB1.out⟩
 case round =>
  obtain ⟨k,hk,rfl,hown,hbel⟩:=hrel
  have HO:=hidden hown
  have HB:=hidden hbel
  have hzr:=hbel.size
  obtain ⟨ab,cb,rfl⟩:=hown.len
  have hbl:=HSZ.out k
  clear hown hbel
  obtain rfl | rfl | rfl | rfl | rfl | rfl:k=0∨k=1∨k=2∨k=3∨k=4∨k=5:=by omega
  ·have HT:=hidden (bst_step0 l)
   have HSW:=hidden (HS.out.kept (HB.out.alloc hzr (.cells #[.int .u8 0] 5)))
   have HLIT:=hidden (lit_own wr 0)
   have HBA:=hidden ((Below.refl wr.heap.size wr).alloc (Nat.le_refl _) (.cells #[.int .u8 0] 5))
   have hsize:(enc0 l).length<=5130:=hz_0
   clear hz_0 hz_1 hz_2 hz_3 hz_4
   generalize bst l 0=B0 at *
   generalize enc0 l=EC at *
   go_wp2_with fail
   refine (HP0.out _ HSW.out).mono ?_
   rintro e w3 ⟨⟨v3,rfl,ho3⟩,hb3⟩
   have HO3:=hidden ho3
   have HL3:=hidden (HLIT.out.kept hb3)
   have HB3:=hidden (HBA.out.trans (hb3.mono (by simp)))
   have hz3:=hb3.size
   rw [World.size_alloc] at hz3
   clear ho3 hb3
   go_wp2_with (first | (at_builtin;refine wpList_append_sv rfl _ _ rfl wr.heap.size _ _ [0] EC rfl HL3.out rfl HO3.out.sv ?c1 ?c2 ?_))
   case c1=>simp;omega
   case c2=>omega
   intro v4 w4 o4 b4
   have HO4:=hidden (o4.low hzr)
   have HB4:=hidden (HB3.out.trans b4)
   have HBB:=hidden (HB.out.trans (HB4.out.mono hzr))
   have HOB:=hidden (HO.out.kept HB4.out)
   obtain ⟨a4,c4,rfl⟩:=o4.len
   clear o4 b4
   go_wp2_with fail
   go_roundw
   case rel=>exact ⟨1,by omega,by go_num,by rw [HT.out];exact HO4.out,HBB.out⟩
   case measure=>simp [intOf]
  ·have HT:=hidden (bst_step1 l)
   have HSW:=hidden (HS.out.kept (HB.out.alloc hzr (.cells #[.int .u8 1] 5)))
   have HLIT:=hidden (lit_own wr 1)
   have HBA:=hidden ((Below.refl wr.heap.size wr).alloc (Nat.le_refl _) (.cells #[.int .u8 1] 5))
   have hsize:(enc1 0 l).length<=5130:=hz_1
   clear hz_0 hz_1 hz_2 hz_3 hz_4
   generalize bst l 1=B0 at *
   generalize enc1 0 l=EC at *
   go_wp2_with fail
   refine (HP1.out _ HSW.out).mono ?_
   rintro e w3 ⟨⟨v3,rfl,ho3⟩,hb3⟩
   have HO3:=hidden ho3
   have HL3:=hidden (HLIT.out.kept hb3)
   have HB3:=hidden (HBA.out.trans (hb3.mono (by simp)))
   have hz3:=hb3.size
   rw [World.size_alloc] at hz3
   clear ho3 hb3
   go_wp2_with (first | (at_builtin;refine wpList_append_sv rfl _ _ rfl wr.heap.size _ _ [1] EC rfl HL3.out rfl HO3.out.sv ?c1 ?c2 ?_))
   case c1=>simp;omega
   case c2=>omega
   intro v4 w4 o4 b4
   have HO4:=hidden (o4.low hzr)
   have HB4:=hidden (HB3.out.trans b4)
   have HBB:=hidden (HB.out.trans (HB4.out.mono hzr))
   have HOB:=hidden (HO.out.kept HB4.out)
   obtain ⟨a4,c4,rfl⟩:=o4.len
   clear o4 b4
   by_cases hlt:EC.length+1<B0.length
   ·rw [if_pos hlt] at HT
    have hcmp:(EC.length:Int)+1<(B0.length:Int):=by omega
    clear hlt
    go_wp2_with fail
    go_roundw
    case rel=>exact ⟨2,by omega,by go_num,by rw [HT.out];exact HO4.out,HBB.out⟩
    case measure=>simp [intOf]
   ·rw [if_neg hlt] at HT
    have hcmp:¬ (EC.length:Int)+1<(B0.length:Int):=by omega
    clear hlt
    go_wp2_with fail
    go_roundw
    case rel=>exact ⟨2,by omega,by go_num,by rw [HT.out];exact HOB.out,HBB.out⟩
    case measure=>simp [intOf]
  ·have HT:=hidden (bst_step2 l)
   have HSW:=hidden (HS.out.kept (HB.out.alloc hzr (.cells #[.int .u8 2] 5)))
   have HLIT:=hidden (lit_own wr 2)
   have HBA:=hidden ((Below.refl wr.heap.size wr).alloc (Nat.le_refl _) (.cells #[.int .u8 2] 5))
   have hsize:(enc2 l).length<=5130:=hz_2
   clear hz_0 hz_1 hz_2 hz_3 hz_4
   generalize bst l 2=B0 at *
   generalize enc2 l=EC at *
   go_wp2_with fail
   refine (HP2.out _ HSW.out).mono ?_
   rintro e w3 ⟨⟨v3,rfl,ho3⟩,hb3⟩
   have HO3:=hidden ho3
   have HL3:=hidden (HLIT.out.kept hb3)
   have HB3:=hidden (HBA.out.trans (hb3.mono (by simp)))
   have hz3:=hb3.size
   rw [World.size_alloc] at hz3
   clear ho3 hb3
   go_wp2_with (first | (at_builtin;refine wpList_append_sv rfl _ _ rfl wr.heap.size _ _ [2] EC rfl HL3.out rfl HO3.out.sv ?c1 ?c2 ?_))
   case c1=>simp;omega
   case c2=>omega
   intro v4 w4 o4 b4
   have HO4:=hidden (o4.low hzr)
   have HB4:=hidden (HB3.out.trans b4)
   have HBB:=hidden (HB.out.trans (HB4.out.mono hzr))
   have HOB:=hidden (HO.out.kept HB4.out)
   obtain ⟨a4,c4,rfl⟩:=o4.len
   clear o4 b4
   by_cases hlt:EC.length+1<B0.length
   ·rw [if_pos hlt] at HT
    have hcmp:(EC.length:Int)+1<(B0.length:Int):=by omega
    clear hlt
    go_wp2_with fail
    go_roundw
    case rel=>exact ⟨3,by omega,by go_num,by rw [HT.out];exact HO4.out,HBB.out⟩
    case measure=>simp [intOf]
   ·rw [if_neg hlt] at HT
    have hcmp:¬ (EC.length:Int)+1<(B0.length:Int):=by omega
    clear hlt
    go_wp2_with fail
    go_roundw
    case rel=>exact ⟨3,by omega,by go_num,by rw [HT.out];exact HOB.out,HBB.out⟩
    case measure=>simp [intOf]
  ·have HT:=hidden (bst_step3 l)
   have HSW:=hidden (HS.out.kept (HB.out.alloc hzr (.cells #[.int .u8 3] 5)))
   have HLIT:=hidden (lit_own wr 3)
   have HBA:=hidden ((Below.refl wr.heap.size wr).alloc (Nat.le_refl _) (.cells #[.int .u8 3] 5))
   have hsize:(enc3 l).length<=5130:=hz_3
   clear hz_0 hz_1 hz_2 hz_3 hz_4
   generalize bst l 3=B0 at *
   generalize enc3 l=EC at *
   go_wp2_with fail
   refine (HP3.out _ HSW.out).mono ?_
   rintro e w3 ⟨⟨v3,rfl,ho3⟩,hb3⟩
   have HO3:=hidden ho3
   have HL3:=hidden (HLIT.out.kept hb3)
   have HB3:=hidden (HBA.out.trans (hb3.mono (by simp)))
   have hz3:=hb3.size
   rw [World.size_alloc] at hz3
   clear ho3 hb3
   go_wp2_with (first | (at_builtin;refine wpList_append_sv rfl _ _ rfl wr.heap.size _ _ [3] EC rfl HL3.out rfl HO3.out.sv ?c1 ?c2 ?_))
   case c1=>simp;omega
   case c2=>omega
   intro v4 w4 o4 b4
   have HO4:=hidden (o4.low hzr)
   have HB4:=hidden (HB3.out.trans b4)
   have HBB:=hidden (HB.out.trans (HB4.out.mono hzr))
   have HOB:=hidden (HO.out.kept HB4.out)
   obtain ⟨a4,c4,rfl⟩:=o4.len
   clear o4 b4
   by_cases hlt:EC.length+1<B0.length
   ·rw [if_pos hlt] at HT
    have hcmp:(EC.length:Int)+1<(B0.length:Int):=by omega
    clear hlt
    go_wp2_with fail
    go_roundw
    case rel=>exact ⟨4,by omega,by go_num,by rw [HT.out];exact HO4.out,HBB.out⟩
    case measure=>simp [intOf]
   ·rw [if_neg hlt] at HT
    have hcmp:¬ (EC.length:Int)+1<(B0.length:Int):=by omega
    clear hlt
    go_wp2_with fail
    go_roundw
    case rel=>exact ⟨4,by omega,by go_num,by rw [HT.out];exact HOB.out,HBB.out⟩
    case measure=>simp [intOf]
  ·have HT:=hidden (bst_step4 l)
   have HSW:=hidden (HS.out.kept (HB.out.alloc hzr (.cells #[.int .u8 4] 5)))
   have HLIT:=hidden (lit_own wr 4)
   have HBA:=hidden ((Below.refl wr.heap.size wr).alloc (Nat.le_refl _) (.cells #[.int .u8 4] 5))
   have hsize:(enc4 l).length<=5130:=hz_4
   clear hz_0 hz_1 hz_2 hz_3 hz_4
   generalize bst l 4=B0 at *
   generalize enc4 l=EC at *
   go_wp2_with fail
   refine (HP4.out _ HSW.out).mono ?_
   rintro e w3 ⟨⟨v3,rfl,ho3⟩,hb3⟩
   have HO3:=hidden ho3
   have HL3:=hidden (HLIT.out.kept hb3)
   have HB3:=hidden (HBA.out.trans (hb3.mono (by simp)))
   have hz3:=hb3.size
   rw [World.size_alloc] at hz3
   clear ho3 hb3
   go_wp2_with (first | (at_builtin;refine wpList_append_sv rfl _ _ rfl wr.heap.size _ _ [4] EC rfl HL3.out rfl HO3.out.sv ?c1 ?c2 ?_))
   case c1=>simp;omega
   case c2=>omega
   intro v4 w4 o4 b4
   have HO4:=hidden (o4.low hzr)
   have HB4:=hidden (HB3.out.trans b4)
   have HBB:=hidden (HB.out.trans (HB4.out.mono hzr))
   have HOB:=hidden (HO.out.kept HB4.out)
   obtain ⟨a4,c4,rfl⟩:=o4.len
   clear o4 b4
   by_cases hlt:EC.length+1<B0.length
   ·rw [if_pos hlt] at HT
    have hcmp:(EC.length:Int)+1<(B0.length:Int):=by omega
    clear hlt
    go_wp2_with fail
    go_roundw
    case rel=>exact ⟨5,by omega,by go_num,by rw [HT.out];exact HO4.out,HBB.out⟩
    case measure=>simp [intOf]
   ·rw [if_neg hlt] at HT
    have hcmp:¬ (EC.length:Int)+1<(B0.length:Int):=by omega
    clear hlt
    go_wp2_with fail
    go_roundw
    case rel=>exact ⟨5,by omega,by go_num,by rw [HT.out];exact HOB.out,HBB.out⟩
    case measure=>simp [intOf]
  ·go_wp2_with fail
   go_ret2
   exact ⟨⟨_,rfl,HO.out⟩,HB.out⟩
theorem best_no {w:World} {v:Value} {l:List Int} (hs:Sv w v (ivals l)) (hl:¬ l.length<=256) :
  Calls Tryz.prog 170 #[v] w fun e w'=>(∃ v',e=.returned (.tuple #[v',.bool false])/\OwnB w' w.heap.size v' [])/\Below w.heap.size w w':=by
 obtain ⟨a,cap,rfl,hcap,hcm⟩:=hs.form
 have hm:l.length<=9223372036854775807:=by unfold maxLen at hcm;omega
 have hgt:(l.length:Int) > 256:=by omega
 clear hs hcap hcm hl
 go_enter Tryz.func170,Tryz.ntmps170
 go_wp2_with fail
 go_ret2
 exact ⟨⟨_,rfl,OwnB.nil _ _⟩,Below.refl _ _⟩
theorem best_any {w:World} {v:Value} {l:List Int} (hs:Sv w v (ivals l)) (hi:Is l) :
  Calls Tryz.prog 170 #[v] w fun e w'=>(∃ v',e=.returned (.tuple #[v',.bool (decide (l.length<=256))])/\OwnB w' w.heap.size v' (bestM l))/\Below w.heap.size w w':=by
 unfold bestM
 by_cases h:l.length<=256
 ·rw [decide_eq_true h,if_pos h]
  exact best_yes hs h hi
 ·rw [decide_eq_false h,if_neg h]
  exact best_no hs h
end Go.Proofs.YtpljdjmpamjkhaaGreatDoor
set_option linter.unusedVariables false
set_option linter.unusedSimpArgs false
namespace Go.Proofs.YtpljdjmpamjkhaaGreatDoor
open Go.RowKit Go.Lib
def svalsC (l:List (List Nat)):List Value:=l.map txt
theorem svals_lengthC (l:List (List Nat)):(svalsC l).length=l.length:=List.length_map _
theorem svals_appendC (a b:List (List Nat)):svalsC (a++b)=svalsC a++svalsC b:=List.map_append
theorem svals_getC {l:List (List Nat)} {j:Nat} (h:j<l.length):(svalsC l)[j]?=some (txt l[j]):=by simp [svalsC,h]
def OwnS (W:World) (B:Nat) (v:Value) (l:List (List Nat)):Prop:=W.ownsRow B 9 1 v l.length (svalsC l)
theorem OwnS.nil (W:World) (B:Nat):OwnS W B (.slice none 0 0) []:=World.ownsRow_nil _ _ _ _
theorem OwnS.kept {w w':World} {B:Nat} {v:Value} {l:List (List Nat)} (h:OwnS w B v l) (hb:Below w.heap.size w w'):OwnS w' B v l:=own_kept h hb
theorem OwnS.sv {W:World} {B:Nat} {v:Value} {l:List (List Nat)} (h:OwnS W B v l):Sv W v (svalsC l):=Sv.of_own h
end Go.Proofs.YtpljdjmpamjkhaaGreatDoor
set_option linter.unusedVariables false
set_option linter.unusedSimpArgs false
set_option maxRecDepth 100000
set_option maxHeartbeats 2000000
namespace Go.Proofs.YtpljdjmpamjkhaaGreatDoor
open Go.RowKit Go.Lib
theorem info9:(Tryz.prog.info? 9).map (fun i=>(i.zero,i.size,i.bytes))=some (some (.string ⟨#[]⟩),1,16):=by kernel_rfl
theorem wpList_append_s {w:World} {ops:Array Oper} {rest:List Oper} {o:Oper} {a:Act} {Q:Exit->Act->World->Prop} (hgd:o.guard=none) (s x:Operand)
  (ho:o.op=.call { callee:=.builtin .append,args:=#[s,x],argTypes:=#[144,144] })
  (base:Nat) (v:Value) (g:Nat) (z:List Nat) (l0:List (List Nat)) (hs:a.eval s=v) (hown:OwnS w base v l0) (hx:a.eval x=.slice (some ⟨g,0,none⟩) 1 1) (hc:w.cell? ⟨g,0,none⟩=some (txt z))
  (hbytes:l0.length<=100000) (hbase:base<=w.heap.size)
  (h:∀ v' w',OwnS w' base v' (l0++[z])->Below base w w'->wpList Tryz.prog ops Q rest (a.put o.dst v') w') :
  wpList Tryz.prog ops Q (o::rest) a w:=by
 obtain ⟨i0,hi,hz0,hz1',hz2⟩:=info_parts info9
 unfold OwnS at *
 refine wpList_append_own_at (w:=w) hgd s x 144 ho base 9 i0 (.string ⟨#[]⟩) 1 16 Tryz.underlying144 hi hz0 hz1' hz2 rfl (by decide) v l0.length (svalsC l0) hs hown ⟨g,0,none⟩ 1 1 [txt z] hx rfl ?_ (fun u hu=>by
  have:u=txt z:=by simpa using hu
  subst this
  rfl) (by unfold maxLen;omega) (by omega) hbase ?_
 ·intro j u hu
  rw [add0]
  cases j with
  | zero =>
   simp only [List.getElem?_cons_zero,Option.some.injEq] at hu
   rw [← hu]
   exact hc
  | succ j=>simp at hu
 ·intro v' w' o1 g1 _ _
  refine h v' w' ?_ ((Below.refl base w).grown g1 hbase (fun k hk=>(hown.lt k hk).1))
  rw [svals_appendC,List.length_append]
  exact o1
theorem bstC_best {l:List Int} (hl:l.length<=256):bestM l=bstC l:=if_pos hl
theorem cbest_any {w:World} {v:Value} {l:List Int} (hs:Sv w v (ivals l)) (hl:l.length<=256) (hi:Is l):Calls Tryz.prog 126 #[v] w (Told w (bstC l)):=by
 have HB:=hidden (best_any hs hi)
 rw [bstC_best hl] at HB
 clear hs hi
 generalize bstC l=bs at *
 go_enter Tryz.func126,Tryz.ntmps126
 go_wp2_with fail
 refine HB.out.mono ?_
 rintro e w1 ⟨⟨v1,rfl,ho1⟩,hb1⟩
 have HO1:=hidden ho1
 have HB1:=hidden hb1
 clear ho1 hb1
 go_wp2_with fail
 go_ret
 exact ⟨⟨_,rfl,HO1.out⟩,HB1.out⟩
theorem cpack_any {w:World} {v:Value} {l:List Nat} (hs:Sv w v (vals .u64 l)) (h2:∀ x∈l,x<2):Calls Tryz.prog 128 #[v] w (Told w (packR l 1)):=by
 have HB:=hidden (pack_anyC hs.sx (fun x hx=>by have:=h2 x hx;omega) 1)
 clear hs h2
 generalize packR l 1=bs at *
 generalize can l 1=bb at *
 go_enter Tryz.func128,Tryz.ntmps128
 go_wp2_with fail
 refine HB.out.mono ?_
 rintro e w1 ⟨v1,rfl,ho1,hb1⟩
 have HO1:=hidden ho1
 have HB1:=hidden hb1
 clear ho1 hb1
 go_wp2_with fail
 go_ret
 exact ⟨⟨_,rfl,HO1.out⟩,HB1.out⟩
theorem cbit_any (b:Bool) (w:World):Calls Tryz.prog 169 #[.bool b] w fun e w'=>e=.returned (.int .u64 (if b then 1 else 0))/\w'=w:=by
 cases b
 all_goals
  go_enter Tryz.func169,Tryz.ntmps169
  go_wp2
  go_ret
  exact ⟨rfl,rfl⟩
theorem ofColumns_any (k:Nat) (w:World):Calls Tryz.prog 167 #[.int .u8 (k:Int)] w fun e w'=>e=.returned (.bool (decide (1<=k/\k<=3)))/\w'=w:=by
 by_cases h1:((k:Int)==1)=true
 ·have hk:k=1:=by have:(k:Int)=1:=(by simpa using h1);omega
  subst hk
  go_enter Tryz.func167,Tryz.ntmps167
  go_wp2
  go_ret
  exact ⟨rfl,rfl⟩
 ·by_cases h2:((k:Int)==2)=true
  ·have hk:k=2:=by have:(k:Int)=2:=(by simpa using h2);omega
   subst hk
   go_enter Tryz.func167,Tryz.ntmps167
   go_wp2
   go_ret
   exact ⟨rfl,rfl⟩
  ·by_cases h3:((k:Int)==3)=true
   ·have hk:k=3:=by have:(k:Int)=3:=(by simpa using h3);omega
    subst hk
    go_enter Tryz.func167,Tryz.ntmps167
    go_wp2
    go_ret
    exact ⟨rfl,rfl⟩
   ·have h1':((k:Int)==1)=false:=by simpa using h1
    have h2':((k:Int)==2)=false:=by simpa using h2
    have h3':((k:Int)==3)=false:=by simpa using h3
    have HN:Hid (decide (1<=k/\k<=3)=false):=hidden (by
     have a1:(k:Int)≠1:=by simpa using h1
     have a2:(k:Int)≠2:=by simpa using h2
     have a3:(k:Int)≠3:=by simpa using h3
     exact decide_eq_false (by omega))
    rw [HN.out]
    clear h1 h2 h3
    go_enter Tryz.func167,Tryz.ntmps167
    go_wp2
    go_ret
    exact ⟨rfl,rfl⟩
theorem Cellk.fine {k:Nat} {c:Nat×Int×List Nat} (h:Cellk k c):Fine c:=by
 rcases h with h | ⟨_,h⟩ | ⟨_,h⟩ | ⟨_,h⟩
 ·exact Or.inl h
 ·exact Or.inr (Or.inl h)
 ·exact Or.inr (Or.inr (Or.inl h))
 ·exact Or.inr (Or.inr (Or.inr h))
theorem Fine.cellk {k:Nat} {c:Nat×Int×List Nat} (h:Fine c) (hk:c.1=0∨c.1=k):Cellk k c:=by
 rcases h with h | ⟨n,rfl,h⟩ | ⟨n,rfl,h⟩ | ⟨n,rfl,h⟩
 ·exact Or.inl h
 ·have:k=1:=by simp at hk;omega
  exact Or.inr (Or.inl ⟨this,n,rfl,h⟩)
 ·have:k=2:=by simp at hk;omega
  exact Or.inr (Or.inr (Or.inl ⟨this,n,rfl,h⟩))
 ·have:k=3:=by simp at hk;omega
  exact Or.inr (Or.inr (Or.inr ⟨this,n,rfl,h⟩))
theorem ownC_take_succ {l:List (Nat×Int×List Nat)} {j:Nat} (h:j<l.length):ownC (l.take (j+1))=ownC (l.take j)++(if l[j].1=0 then [] else [l[j]]):=by
 unfold ownC
 rw [List.take_succ_eq_append_getElem h,List.filter_append]
 congr 1
 by_cases h0:l[j].1=0
 ·simp [h0]
 ·simp [h0]
theorem ownC_take_len (l:List (Nat×Int×List Nat)) (j:Nat):(ownC (l.take j)).length<=l.length:=by
 have:=ownC_length (l.take j)
 rw [List.length_take] at this
 omega
theorem wholes_any {w:World} {v:Value} {l:List (Nat×Int×List Nat)} (hs:Sv w v (vvals l)) (hl:l.length<=256) (hc:∀ c∈l,Cellk 1 c) :
  Calls Tryz.prog 127 #[v] w fun e w'=>(∃ v',e=.returned v'/\OwnI w' w.heap.size v' ((ownC l).map fun c=>c.2.1))/\Below w.heap.size w w':=by
 have HS:=hidden hs
 have HC:=hidden hc
 obtain ⟨a,cap,rfl,hcap,hcm⟩:=hs.form1
 rw [vvals_length] at *
 have t1:=ta_2_2
 have t2:=ta_n_2
 have hcm':cap<=9223372036854775807:=by unfold maxLen at hcm;omega
 clear hs hc hcm
 go_enter Tryz.func127,Tryz.ntmps127
 go_wp2_with fail
 go_loopw [3,10] (fun o i wr=>∃ j:Nat,j<=l.length/\i=.int .i64 (j:Int)/\OwnI wr w.heap.size o ((ownC (l.take j)).map fun c=>c.2.1)/\Below w.heap.size w wr) (fun _ i _=>l.length-(intOf i).toNat)
 case atStart=>exact ⟨0,by omega,rfl,OwnI.nil _ _,Below.refl _ _⟩
 case round =>
  obtain ⟨j,hj,rfl,hown,hbel⟩:=hrel
  have HO:=hidden hown
  have HB:=hidden hbel
  have hzr:=hbel.size
  clear hown hbel
  by_cases hlt:j<l.length
  ·obtain ⟨b,off,rfl,hb,hcell⟩:=HS.out.at1 (vvals_get hlt)
   have hcell':=(HB.out.cell (p:=⟨b,off+j,none⟩) hb).trans hcell
   have HT:=hidden (ownC_take_succ hlt)
   have hlen:=ownC_take_len l j
   have hck:=HC.out l[j] (List.getElem_mem hlt)
   have hlt':(j:Int)<(l.length:Int):=by omega
   clear hcell
   generalize l[j]=c at *
   rcases hck with rfl | ⟨_,n,rfl,hn⟩ | ⟨hk,_⟩ | ⟨hk,_⟩
   ·simp only [nul,valC,if_true] at hcell'
    have HT':Hid (ownC (l.take (j+1))=ownC (l.take j)):=hidden (by
     have:=HT.out
     simpa [nul] using this)
    clear HT
    go_wp2_with fail
    go_roundw
    case rel=>exact ⟨j+1,by omega,by go_num,by rw [HT'.out];exact HO.out,HB.out⟩
    case measure=>simp [intOf];omega
   ·simp only [valC] at hcell'
    have HT':Hid ((ownC (l.take (j+1))).map (fun c=>c.2.1)=((ownC (l.take j)).map fun c=>c.2.1)++[n]):=hidden (by
     have:=HT.out
     simp only [show (1:Nat)≠0 from by omega,if_false] at this
     rw [this,List.map_append]
     rfl)
    have hlen':((ownC (l.take j)).map fun c=>c.2.1).length<=100000:=by rw [List.length_map];omega
    clear HT
    generalize ((ownC (l.take j)).map fun c=>c.2.1)=L at *
    go_wp2_with (first | (at_builtin;refine wpList_append_i rfl _ _ rfl w.heap.size _ _ n L rfl (HO.out.kept (below_one _ _)) rfl (cell_new _ _ _) hlen' ?c2 ?_))
    case c2=>first | omega | (rw [World.size_alloc];omega)
    intro v' w2 o2 b2
    have HO2:=hidden o2
    have HB2:=hidden ((HB.out.alloc hzr _).trans b2)
    clear o2 b2
    go_wp2_with fail
    go_roundw
    case rel=>exact ⟨j+1,by omega,by go_num,by rw [HT'.out];exact HO2.out,HB2.out⟩
    case measure=>simp [intOf];omega
   ·omega
   ·omega
  ·have:j=l.length:=by omega
   subst this
   have hge:¬ ((l.length:Nat):Int)<(l.length:Int):=by omega
   rw [List.take_length] at HO
   go_wp2_with fail
   go_ret
   exact ⟨⟨_,rfl,HO.out⟩,HB.out⟩
theorem ctexts_any {w:World} {v:Value} {l:List (Nat×Int×List Nat)} (hs:Sv w v (vvals l)) (hl:l.length<=256) (hc:∀ c∈l,Cellk 3 c) :
  Calls Tryz.prog 131 #[v] w fun e w'=>(∃ v',e=.returned v'/\OwnS w' w.heap.size v' ((ownC l).map fun c=>c.2.2))/\Below w.heap.size w w':=by
 have HS:=hidden hs
 have HC:=hidden hc
 obtain ⟨a,cap,rfl,hcap,hcm⟩:=hs.form1
 rw [vvals_length] at *
 have t1:=ta_9_9
 have t2:=ta_n_9
 have hcm':cap<=9223372036854775807:=by unfold maxLen at hcm;omega
 clear hs hc hcm
 go_enter Tryz.func131,Tryz.ntmps131
 go_wp2_with fail
 go_loopw [3,10] (fun o i wr=>∃ j:Nat,j<=l.length/\i=.int .i64 (j:Int)/\OwnS wr w.heap.size o ((ownC (l.take j)).map fun c=>c.2.2)/\Below w.heap.size w wr) (fun _ i _=>l.length-(intOf i).toNat)
 case atStart=>exact ⟨0,by omega,rfl,OwnS.nil _ _,Below.refl _ _⟩
 case round =>
  obtain ⟨j,hj,rfl,hown,hbel⟩:=hrel
  have HO:=hidden hown
  have HB:=hidden hbel
  have hzr:=hbel.size
  clear hown hbel
  by_cases hlt:j<l.length
  ·obtain ⟨b,off,rfl,hb,hcell⟩:=HS.out.at1 (vvals_get hlt)
   have hcell':=(HB.out.cell (p:=⟨b,off+j,none⟩) hb).trans hcell
   have HT:=hidden (ownC_take_succ hlt)
   have hlen:=ownC_take_len l j
   have hck:=HC.out l[j] (List.getElem_mem hlt)
   have hlt':(j:Int)<(l.length:Int):=by omega
   clear hcell
   generalize l[j]=c at *
   rcases hck with rfl | ⟨hk,_⟩ | ⟨hk,_⟩ | ⟨_,n,rfl,hn⟩
   ·simp only [nul,valC,if_true] at hcell'
    have HT':Hid (ownC (l.take (j+1))=ownC (l.take j)):=hidden (by
     have:=HT.out
     simpa [nul] using this)
    clear HT
    go_wp2_with fail
    go_roundw
    case rel=>exact ⟨j+1,by omega,by go_num,by rw [HT'.out];exact HO.out,HB.out⟩
    case measure=>simp [intOf];omega
   ·omega
   ·omega
   ·simp only [valC,txt_eq,show (3:Nat)≠0 from by omega,show (3:Nat)≠1 from by omega,show (3:Nat)≠2 from by omega,if_false] at hcell'
    have HT':Hid ((ownC (l.take (j+1))).map (fun c=>c.2.2)=((ownC (l.take j)).map fun c=>c.2.2)++[n]):=hidden (by
     have:=HT.out
     simp only [show (3:Nat)≠0 from by omega,if_false] at this
     rw [this,List.map_append]
     rfl)
    have hlen':((ownC (l.take j)).map fun c=>c.2.2).length<=100000:=by rw [List.length_map];omega
    clear HT
    generalize ((ownC (l.take j)).map fun c=>c.2.2)=L at *
    go_wp2_with (first | (at_builtin;refine wpList_append_s rfl _ _ rfl w.heap.size _ _ n L rfl (HO.out.kept (below_one _ _)) rfl (cell_new _ _ _) hlen' ?c2 ?_))
    case c2=>first | omega | (rw [World.size_alloc];omega)
    intro v' w2 o2 b2
    have HO2:=hidden o2
    have HB2:=hidden ((HB.out.alloc hzr _).trans b2)
    clear o2 b2
    go_wp2_with fail
    go_roundw
    case rel=>exact ⟨j+1,by omega,by go_num,by rw [HT'.out];exact HO2.out,HB2.out⟩
    case measure=>simp [intOf];omega
  ·have:j=l.length:=by omega
   subst this
   have hge:¬ ((l.length:Nat):Int)<(l.length:Int):=by omega
   rw [List.take_length] at HO
   go_wp2_with fail
   go_ret
   exact ⟨⟨_,rfl,HO.out⟩,HB.out⟩
theorem truths_any {w:World} {v:Value} {l:List (Nat×Int×List Nat)} (hs:Sv w v (vvals l)) (hl:l.length<=256) (hc:∀ c∈l,Cellk 2 c) :
  Calls Tryz.prog 129 #[v] w fun e w'=>(∃ v',e=.returned v'/\OwnU w' w.heap.size v' ((ownC l).map fun c=>c.2.1.toNat))/\Below w.heap.size w w':=by
 have HS:=hidden hs
 have HC:=hidden hc
 obtain ⟨a,cap,rfl,hcap,hcm⟩:=hs.form1
 rw [vvals_length] at *
 have t1:=ta_4_4
 have t2:=ta_n_4
 have hcm':cap<=9223372036854775807:=by unfold maxLen at hcm;omega
 clear hs hc hcm
 go_enter Tryz.func129,Tryz.ntmps129
 go_wp2_with fail
 go_loopw [3,10] (fun o i wr=>∃ j:Nat,j<=l.length/\i=.int .i64 (j:Int)/\OwnU wr w.heap.size o ((ownC (l.take j)).map fun c=>c.2.1.toNat)/\Below w.heap.size w wr) (fun _ i _=>l.length-(intOf i).toNat)
 case atStart=>exact ⟨0,by omega,rfl,OwnU.nil _ _,Below.refl _ _⟩
 case round =>
  obtain ⟨j,hj,rfl,hown,hbel⟩:=hrel
  have HO:=hidden hown
  have HB:=hidden hbel
  have hzr:=hbel.size
  clear hown hbel
  by_cases hlt:j<l.length
  ·obtain ⟨b,off,rfl,hb,hcell⟩:=HS.out.at1 (vvals_get hlt)
   have hcell':=(HB.out.cell (p:=⟨b,off+j,none⟩) hb).trans hcell
   have HT:=hidden (ownC_take_succ hlt)
   have hlen:=ownC_take_len l j
   have hck:=HC.out l[j] (List.getElem_mem hlt)
   have hlt':(j:Int)<(l.length:Int):=by omega
   clear hcell
   generalize l[j]=c at *
   rcases hck with rfl | ⟨hk,_⟩ | ⟨_,n,rfl,hn⟩ | ⟨hk,_⟩
   ·simp only [nul,valC,if_true] at hcell'
    have HT':Hid (ownC (l.take (j+1))=ownC (l.take j)):=hidden (by
     have:=HT.out
     simpa [nul] using this)
    clear HT
    go_wp2_with fail
    go_roundw
    case rel=>exact ⟨j+1,by omega,by go_num,by rw [HT'.out];exact HO.out,HB.out⟩
    case measure=>simp [intOf];omega
   ·omega
   ·simp only [valC,show (2:Nat)≠0 from by omega,show (2:Nat)≠1 from by omega,if_false,if_true] at hcell'
    have HBT:Hid (∀ W:World,Calls Tryz.prog 169 #[.bool (decide ((n:Int)=1))] W fun e w'=>e=.returned (.int .u64 (n:Int))/\w'=W):=hidden (fun W=>by
     have:=cbit_any (decide ((n:Int)=1)) W
     obtain rfl | rfl:n=0∨n=1:=by omega
     ·exact this
     ·exact this)
    generalize decide ((n:Int)=1)=bb at *
    have HT':Hid ((ownC (l.take (j+1))).map (fun c=>c.2.1.toNat)=((ownC (l.take j)).map fun c=>c.2.1.toNat)++[n]):=hidden (by
     have:=HT.out
     simp only [show (2:Nat)≠0 from by omega,if_false] at this
     rw [this,List.map_append]
     simp)
    have hlen':((ownC (l.take j)).map fun c=>c.2.1.toNat).length<=100000:=by rw [List.length_map];omega
    clear HT
    generalize ((ownC (l.take j)).map fun c=>c.2.1.toNat)=L at *
    go_wp2_with fail
    refine (HBT.out _).mono ?_
    rintro e wq ⟨rfl,rfl⟩
    go_wp2_with (first | (at_builtin;refine wpList_append_u rfl _ _ rfl w.heap.size _ _ n L rfl (HO.out.kept (below_one _ _)) rfl (cell_new _ _ _) hlen' ?c2 ?_))
    case c2=>first | omega | (rw [World.size_alloc];omega)
    intro v' w2 o2 b2
    have HO2:=hidden o2
    have HB2:=hidden ((HB.out.alloc hzr _).trans b2)
    clear o2 b2
    go_wp2_with fail
    go_roundw
    case rel=>exact ⟨j+1,by omega,by go_num,by rw [HT'.out];exact HO2.out,HB2.out⟩
    case measure=>simp [intOf];omega
   ·omega
  ·have:j=l.length:=by omega
   subst this
   have hge:¬ ((l.length:Nat):Int)<(l.length:Int):=by omega
   rw [List.take_length] at HO
   go_wp2_with fail
   go_ret
   exact ⟨⟨_,rfl,HO.out⟩,HB.out⟩
end Go.Proofs.YtpljdjmpamjkhaaGreatDoor
