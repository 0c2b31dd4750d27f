import Derived.Test.YtcmgclckknpecaaGreatDoorKai
import Derived.Lib.OthersKept
import Derived.Test.YtcmgclckknpecaaGreatDoorKar
import Derived.Maps.OwnIn
import Derived.Laws.EntriesVeiled
namespace Go.Proofs.YtcmgclckknpecaaGreatDoor
open Go.RowKit Go.Shelf
def Pl.smlFrom (s:ByteArray):Nat→Nat→List UInt8
 | 0,_=>[]
 | m+1,pos=>if pos<s.size then Lib.encodeRune ((Pl.sml (Utf8.decode s pos).1:Nat):Int)++Pl.smlFrom s m (pos+(Utf8.decode s pos).2) else []
def Pl.smlS (s:ByteArray):ByteArray:=⟨(Pl.smlFrom s s.size 0).toArray⟩
theorem Pl.smlFrom_end (s:ByteArray) (m pos:Nat) (h:¬ pos<s.size):Pl.smlFrom s m pos=[]:=by
 cases m with
 | zero=>rfl
 | succ f=>simp [Pl.smlFrom,h]
theorem width_pos (s:ByteArray) (pos:Nat) (h:pos<s.size):1≤(Utf8.decode s pos).2:=by
 by_cases ha:(s[pos]'h).toNat<128
 ·rw [decode_ascii s pos h ha]
  exact Nat.le_refl _
 ·exact (decode_high s pos h (by omega)).2
theorem sml_le (c:Nat) (h:c≤2147483647):Pl.sml c≤2147483647:=by
 unfold Pl.sml
 split
 ·rename_i hc
  have:c≤2000:=by
   unfold Pl.isCap Pl.wit at hc
   split at hc
   ·simp at hc
   ·simp at hc;omega
  omega
 ·exact h
set_option maxHeartbeats 4000000 in
set_option maxRecDepth 1000000 in
theorem small_any (s:ByteArray) (w:World) (hs:s.size≤1099511627776) :
  Calls Tryz.prog 205 #[.string s] w fun e w'=>e=.returned (.string (Pl.smlS s))∧Below w.heap.size w w':=by
 go_enter Tryz.func205,Tryz.ntmps205
 go_wp2
 go_loopw [] (fun wr=>∃ (pos fuel:Nat) (acc:List UInt8),Lib.IsBuilderF 166 5 w.heap.size w.heap.size (Lib.byteCells acc) wr∧wr.heap[w.heap.size+1]?=some (.stringIter s pos)∧Below w.heap.size w wr∧Hid (acc++Pl.smlFrom s fuel pos=Pl.smlFrom s s.size 0)∧s.size≤pos+fuel∧acc.length≤4*pos) (fun wr=>s.size - wr.iterPos (w.heap.size+1))
 case atStart =>
  refine ⟨0,s.size,[],(Lib.IsBuilderF.of (Lib.fresh_isBuilder 166 5 w)).alloc _,?_,((Below.refl _ w).alloc (Nat.le_refl _) _).alloc (by simp) _,rfl,by omega,by simp⟩
  have:=World.iter_heap (w.alloc (.cells #[.pointer none,.slice none 0 0] 166)) s 0
  simpa using this
 case round =>
  obtain ⟨pos,fuel,acc,hI,hit,hbw,HA,hfu,hal⟩:=hrel
  have hsz:w.heap.size+1<wr.heap.size:=(Array.getElem?_eq_some_iff.1 hit).1
  by_cases hp:pos<s.size
  ·have hnx:∀ ty,(Instr.next (.pointer (some ⟨w.heap.size+1,0,none⟩)) true ty).run Tryz.prog wr=_:=fun ty=>Lib.run_next_any_at wr (w.heap.size+1) s pos ty hit hp
   have hwd:=width_pos s pos hp
   have hd1:=decode_le s pos
   have hI2:=hI.iterAt hit (pos+(Utf8.decode s pos).2)
   have hit2:=Lib.iterAt_heap wr (w.heap.size+1) s pos (pos+(Utf8.decode s pos).2) hit
   have hbw2:=Lib.below_iterAt hbw (k:=w.heap.size+1) (by omega) s (pos+(Utf8.decode s pos).2)
   have hsz2:w.heap.size≤(wr.iterAt (w.heap.size+1) s (pos+(Utf8.decode s pos).2)).heap.size:=by rw [Lib.iterAt_size];omega
   obtain ⟨f,rfl⟩:∃ f,fuel=f+1:=⟨fuel - 1,by omega⟩
   have hsl:=sml_le (Utf8.decode s pos).1 hd1
   go_wp2_with (first
    | (go_at_call 304;refine (smallForm_any _ (by omega) _).mono ?_;rintro e w' ⟨rfl,rfl⟩)
    | (go_at_call 219;refine (writeRune_any w.heap.size w.heap.size _ _ (by omega) (by omega) _ hI2 (by rw [Lib.byteCells_length];omega) hsz2).mono ?_;rintro e W1 ⟨rfl,h1,b1,k1⟩))
   have hl4:=Lib.runeCells_le ((Pl.sml (Utf8.decode s pos).1:Nat):Int)
   rw [Lib.runeCells_length] at hl4
   go_roundw
   case rel =>
    refine ⟨pos+(Utf8.decode s pos).2,f,acc++Lib.encodeRune ((Pl.sml (Utf8.decode s pos).1:Nat):Int),?_,k1.iter hit2 (by omega),hbw2.trans b1,?_,by omega,by simp;omega⟩
    ·rw [Lib.byteCells_append,Lib.byteCells_encodeRune];exact Or.inr h1
    ·have:=HA.out
     show _=_
     rw [← this];simp [Pl.smlFrom,hp]
   case measure =>
    simp only [World.iterPos,k1.iter hit2 (by omega),hit]
    omega
  ·have hnx:∀ ty,(Instr.next (.pointer (some ⟨w.heap.size+1,0,none⟩)) true ty).run Tryz.prog wr=_:=fun ty=>Lib.run_next_end_at wr (w.heap.size+1) s pos ty hit hp
   have hA:=HA.out
   rw [Pl.smlFrom_end s fuel pos hp,List.append_nil] at hA
   have HA2:Hid (acc=Pl.smlFrom s s.size 0):=hA
   clear hA HA
   go_wp2_with (go_at_call 59;refine (string_any w.heap.size w.heap.size acc _ hI (by omega)).mono ?_;rintro e W1 ⟨rfl,h1,b1,k1⟩)
   go_ret
   obtain rfl:=HA2.out
   exact ⟨rfl,hbw.trans b1⟩
end Go.Proofs.YtcmgclckknpecaaGreatDoor
namespace Go.Proofs.YtcmgclckknpecaaGreatDoor
open Go.RowKit Go.Shelf
attribute [local go_sem] Oper.semAt_some
structure KeepE (B:Nat) (e:TypeId) (W W':World):Prop where
 size:W.heap.size≤W'.heap.size
 block:∀ (k:Nat) (o:Obj),k≠B→W.heap[k]?=some o→(o.isWalk=true∨(o.isCells=true∧∀ c fz,o≠.cells c e fz))→W'.heap[k]?=some o
theorem KeepE.trans {B:Nat} {e:TypeId} {X Y Z:World} (h:KeepE B e X Y) (k:KeepE B e Y Z):KeepE B e X Z:=⟨Nat.le_trans h.size k.size,fun i o hi ho hp=>k.block i o hi (h.block i o hi ho hp) hp⟩
theorem keepE_put {B:Nat} {e:TypeId} {w:World} (W:World) (l:Nat) (o o':Obj) (_:w.heap.size≤l) (hl:W.heap[l]?=some o) (h1:o.isCells=false) (h2:o.isWalk=false):KeepE B e W (W.putObj l o') :=
 ⟨by simp,fun k x _ hx hp=>by
  have hne:k≠l:=fun h=>by
   subst h
   rw [hl] at hx
   cases hx
   rcases hp with hp | hp
   ·rw [h2] at hp;cases hp
   ·rw [h1] at hp;cases hp.1
  exact (World.putObj_heap_other hne).trans hx⟩
theorem KeepE.boxed {B:Nat} {e t:TypeId} {W W':World} {b:Nat} {v:Value} (h:KeepE B e W W') (hb:Boxed W b t v) (hne:b≠B) (hte:t≠e):Boxed W' b t v :=
 h.block b _ hne hb (.inr ⟨rfl,fun c fz hc=>by cases hc;exact hte rfl⟩)
def encs1 (t:ByteArray):Array Value:=#[.string t]
set_option maxHeartbeats 1000000 in
theorem onlyIf1_in (n:Nat) (_hn:1≤n) (l Bs Bt B:Nat) (st:Bool) (x:ByteArray) (J Jx:List ByteArray→World→Prop) (W:World)
  (N:Nat) (hN:1≤N) (hY:∀ pre x W,J pre W→pre.length<N→YieldAt Fence.wide (n - 1) Tryz.prog l (encs1 x) W fun e W' =>
   (e=.returned (.bool true)∧J (pre++[x]) W'∧KeepE B 27 W W')∨(e=.returned (.bool false)∧Jx (pre++[x]) W'))
  (hs:W.cell? ⟨Bs,0,none⟩=some (.bool st)) (ht:W.cell? ⟨Bt,0,none⟩=some (.string x)) (h0:J [] W) :
  CallsIn Fence.wide n Tryz.prog 306 #[.func (.yield l) #[] #[],.pointer (some ⟨Bs,0,none⟩),.pointer (some ⟨Bt,0,none⟩)] W fun e W'=>(∃ v,e=.returned v) ∧
   ((∃ ys,ys=(if st=true then [x] else [])∧J ys W')∨(∃ pre,pre <+: (if st=true then [x] else [])∧Jx pre W')):=by
 refine callsIn_of_wp Tryz.func306 rfl trivial ?_ rfl
 simp only [Tryz.ntmps306,List.size_toArray,List.length_cons,List.length_nil,Nat.reduceAdd,Nat.reduceSub,Array.replicate_succ,Array.replicate_zero,List.push_toArray,List.append_toArray,List.nil_append,List.cons_append]
 obtain ⟨fn,tmps,assign,body,hy,hR⟩:=hY [] x W h0 (by simp;omega)
 simp only [encs1] at hy
 cases st with
 | true =>
  gi_wp2
  refine hR.mono ?_
  rintro e W3 (⟨rfl,hJ3,hk3⟩ | ⟨rfl,hJx3⟩)
  ·gi_wp2
   go_end0
   exact ⟨⟨_,rfl⟩,.inl hJ3⟩
  ·gi_wp2
   go_end0
   exact ⟨⟨_,rfl⟩,.inr ⟨_,List.prefix_refl _,hJx3⟩⟩
 | false =>
  gi_wp2
  go_end0
  exact ⟨⟨_,rfl⟩,.inl h0⟩
theorem onlyIf1_stops (n:Nat) (hn:1≤n) (N:Nat) (hN:1≤N) (Bs Bt B:Nat) (st:Bool) (x:ByteArray) (w:World) (hBs:Bs<w.heap.size) (hBt:Bt<w.heap.size)
  (hs:w.cell? ⟨Bs,0,none⟩=some (.bool st)) (ht:w.cell? ⟨Bt,0,none⟩=some (.string x)) :
  SeqStopsK Fence.wide n Tryz.prog 306 #[.pointer (some ⟨Bs,0,none⟩),.pointer (some ⟨Bt,0,none⟩)] encs1 (KeepE B 27) (fun ys=>ys=(if st=true then [x] else [])) (fun pre=>pre <+: (if st=true then [x] else [])) N w:=fun l J Jx W hW _ _ hY h0 =>
 onlyIf1_in n hn l Bs Bt B st x J Jx W N hN hY ((hW.cell (p:=⟨Bs,0,none⟩) hBs).trans hs) ((hW.cell (p:=⟨Bt,0,none⟩) hBt).trans ht) h0
theorem onlyIf_any (st:Bool) (x:ByteArray) (w:World):Calls Tryz.prog 209 #[.bool st,.string x] w fun e w' =>
  e=.returned (.func (.func 306) #[] #[.pointer (some ⟨w.heap.size,0,none⟩),.pointer (some ⟨w.heap.size+1,0,none⟩)])∧w'=(w.alloc (.cells #[.bool st] 4)).alloc (.cells #[.string x] 9):=by
 go_enter Tryz.func209,Tryz.ntmps209
 go_wp2
 go_ret
 exact ⟨rfl,rfl⟩
theorem only_any (x:ByteArray) (w:World):Calls Tryz.prog 204 #[.string x] w fun e w' =>
  e=.returned (.func (.func 306) #[] #[.pointer (some ⟨w.heap.size,0,none⟩),.pointer (some ⟨w.heap.size+1,0,none⟩)])∧w'=(w.alloc (.cells #[.bool true] 4)).alloc (.cells #[.string x] 9):=by
 go_enter Tryz.func204,Tryz.ntmps204
 go_wp2_with (go_at_call 209;refine (onlyIf_any true x _).mono ?_;rintro e w' ⟨rfl,rfl⟩)
 go_ret
 exact ⟨rfl,rfl⟩
theorem low_any (x:ByteArray) (w:World) (hx:x.size≤1099511627776):Calls Tryz.prog 203 #[.string x] w fun e w'=>∃ b,
  e=.returned (.func (.func 306) #[] #[.pointer (some ⟨b,0,none⟩),.pointer (some ⟨b+1,0,none⟩)])∧Boxed w' b 4 (.bool true)∧Boxed w' (b+1) 9 (.string (Pl.smlS x))∧w.heap.size≤b∧Below w.heap.size w w':=by
 go_enter Tryz.func203,Tryz.ntmps203
 go_wp2_with (first
  | (go_at_call 205;refine (small_any x _ hx).mono ?_;rintro e w1 ⟨rfl,hB1⟩)
  | (go_at_call 204;refine (only_any _ _).mono ?_;rintro e w2 ⟨rfl,hw2⟩))
 go_ret
 subst hw2
 have h1:=Boxed.new w1 4 (.bool true)
 have h2:=Boxed.new (w1.alloc (.cells #[.bool true] 4)) 9 (.string (Pl.smlS x))
 refine ⟨w1.heap.size,rfl,h1.alloc _,by simpa using h2,hB1.size,(hB1.alloc hB1.size _).alloc (by have:=hB1.size;simp;omega) _⟩
end Go.Proofs.YtcmgclckknpecaaGreatDoor
namespace Go.Proofs.YtcmgclckknpecaaGreatDoor
open Go.RowKit Go.Shelf
attribute [local go_sem] Oper.semAt_some
structure Tr (g:Nat) (ts:List Tk) (w:World):Prop where
 c:∀ i (h:i<ts.length),w.cell? ⟨g,i*4,none⟩=some (.string (ts[i]).1)∧w.cell? ⟨g,i*4+1,none⟩=some (.int .i64 ((ts[i]).2.1:Int))∧w.cell? ⟨g,i*4+2,none⟩=some (.int .i64 ((ts[i]).2.2.1:Int))∧w.cell? ⟨g,i*4+3,none⟩=some (.int .i64 ((ts[i]).2.2.2:Int))
theorem Tr.below {g n0:Nat} {ts:List Tk} {w w':World} (h:Tr g ts w) (hb:Below n0 w w') (hg:0<ts.length→g<n0):Tr g ts w' :=
 ⟨fun i hi=>by
  have hg':=hg (by omega)
  have k:∀ j,w'.cell? ⟨g,j,none⟩=w.cell? ⟨g,j,none⟩:=fun j=>hb.cell (p:=⟨g,j,none⟩) hg'
  rw [k,k,k,k];exact h.c i hi⟩
theorem leavesM_marks {F:Fence} {n:Nat} {P:Program} {fn:Func} {tmps:Array Value} {R:Ending→World→Prop} {base:Nat} (I:World→Prop) (hI:∀ W D,base≤D→I W→W.heap[D]?=some (.deferred (some []))→I (W.putObj D (.deferred none)))
  (hfin:∀ W,I W→LeavesIn F n P fn tmps R [] .returning W):∀ (Ds:List Nat) (W:World),Ds.Nodup→(∀ D∈Ds,base≤D∧W.heap[D]?=some (.deferred (some [])))→I W →
   LeavesInM F n P fn tmps R (Ds.map fun D=>{ target:=.collected D,args:=#[] }) .returning W
 | [],W,_,_,h=>hfin W h
 | D :: r,W,hn,hD,h=>by
  obtain ⟨hb,hK⟩:=hD D (by simp)
  rw [List.nodup_cons] at hn
  refine ⟨by simp,.inl ⟨D,_,rfl,run_takeDeferred hK,leavesM_marks I hI hfin r _ hn.2 (fun D' h'=>?_) (hI W D hb h hK)⟩⟩
  obtain ⟨h1,h2⟩:=hD D' (by simp [h'])
  exact ⟨h1,(World.putObj_heap_other (fun e=>hn.1 (by rw [← e];exact h'))).trans h2⟩
theorem boxed_put {X:World} {b D:Nat} {t:TypeId} {v:Value} {o:Obj} (h:Boxed X b t v) (hK:X.heap[D]?=some (.deferred (some []))):Boxed (X.putObj D o) b t v :=
 (World.putObj_heap_other (fun e=>by subst e;rw [show X.heap[b]?=_ from h] at hK;cases hK)).trans h
theorem blk_own {β:Type} (b:Nat) (t:TypeId) (cs:Array Value):Own (fun (_:β) W=>W.heap[b]?=some (.cells cs t (0,0))):=fun _ _ _ _ hs hg hr=>cells_own hs hg hr
theorem def_own {β:Type} (Ds:List Nat) (B:Nat) (h:∀ D∈Ds,D<B):OwnFrom B (fun (_:β) W=>∀ D∈Ds,W.heap[D]?=some (.deferred (some []))):=fun _ X Y row hs hg hr D hD=>by
 refine (hg.block D (Array.getElem?_eq_some_iff.1 (hs D hD)).1 (fun e=>?_)).trans (hs D hD)
 have:=(hr D e.symm).1
 have:=h D hD
 omega
theorem row_block {V:World} {n0:Nat} {e:TypeId} {size:Nat} {v:Value} {k:Nat} {xs:List Value} (hrow:V.ownsRow n0 e size v k xs) {g:Nat} (hg:v.ownBlock=some g):∃ c fz,V.heap[g]?=some (.cells c e fz):=by
 rcases hrow.2 with ⟨rfl,_⟩ | ⟨g',cap,cur,rfl,_,hgb,_⟩
 ·simp [Value.ownBlock] at hg
 ·obtain rfl:g'=g:=by simpa [Value.ownBlock] using hg
  exact ⟨_,_,hgb⟩
def Pl.chg (tf:ByteArray→List ByteArray) (ts:List Tk):List Tk:=ts.flatMap fun t=>(tf t.1).map fun u=>(u,t.2)
theorem Pl.chg_succ (tf:ByteArray→List ByteArray) (ts:List Tk) (k:Nat) (h:k<ts.length):Pl.chg tf (ts.take (k+1))=Pl.chg tf (ts.take k)++(tf (ts[k]).1).map fun u=>(u,(ts[k]).2):=by
 rw [Pl.chg,Pl.chg,List.take_succ_eq_append_getElem h,List.flatMap_append]
 simp only [List.flatMap_cons,List.flatMap_nil,List.append_nil]
theorem Pl.chg_take_le (tf:ByteArray→List ByteArray) (ts:List Tk) (k:Nat):(Pl.chg tf (ts.take k)).length≤(Pl.chg tf ts).length:=by
 have:Pl.chg tf ts=Pl.chg tf (ts.take k)++Pl.chg tf (ts.drop k):=by
  rw [Pl.chg,Pl.chg,Pl.chg,← List.flatMap_append,List.take_append_drop]
 rw [this];simp
end Go.Proofs.YtcmgclckknpecaaGreatDoor
namespace Go.Proofs.YtcmgclckknpecaaGreatDoor
open Go.RowKit
theorem rows_any (F:Nat) (w:World):Calls Tryz.prog 199 #[.func (.func F) #[] #[]] w fun e w'=>e=.returned (.func (.func 296) #[] #[.pointer (some ⟨w.heap.size,0,none⟩)])∧w'=w.alloc (.cells #[.func (.func F) #[] #[]] 372):=by
 go_enter Tryz.func199,Tryz.ntmps199
 go_wp2
 go_ret
 exact ⟨rfl,rfl⟩
theorem res101 {tmps:Array Value} {w:World} {b:Nat} {v:Value} (hp:tmps[2]?=some (.pointer (some ⟨b,0,none⟩))) (hc:w.cell? ⟨b,0,none⟩=some v):(results Tryz.f128 tmps).run Tryz.prog w=.ok (.agg #[v]) w:=by
 simp [results,Tryz.results128,go_sem,hp,hc]
theorem res102 {tmps:Array Value} {w:World} {b:Nat} {v:Value} (hp:tmps[2]?=some (.pointer (some ⟨b,0,none⟩))) (hc:w.cell? ⟨b,0,none⟩=some v):(results Tryz.f129 tmps).run Tryz.prog w=.ok (.agg #[v]) w:=by
 simp [results,Tryz.results129,go_sem,hp,hc]
set_option maxRecDepth 100000 in
set_option maxHeartbeats 1000000 in
theorem makeCutter_words (p1 p2:Option Addr) (n1 c1 n2 c2:Nat) (x z:Int) (w:World) :
  Calls Tryz.prog 128 #[.agg #[.string ⟨#[119,111,114,100,115]⟩,.slice p1 n1 c1,.slice p2 n2 c2,.int .i64 x,.int .i64 z]] w fun e w'=>∃ bs,e=.returned (.agg #[.func (.func 296) #[] #[.pointer (some ⟨bs,0,none⟩)]])∧Boxed w' bs 372 (.func (.func 200) #[] #[])∧w.heap.size≤bs∧Below w.heap.size w w':=by
 have bx:Boxed ((w.alloc (.cells #[.string ⟨#[119,111,114,100,115]⟩,.slice p1 n1 c1,.slice p2 n2 c2,.int .i64 x,.int .i64 z] 96)).alloc (.cells #[(.func (.func 296) #[] #[.pointer (some ⟨w.heap.size+1+1,0,none⟩)])] 116)) (w.heap.size+1) 116 (.func (.func 296) #[] #[.pointer (some ⟨w.heap.size+1+1,0,none⟩)]):=by
  have:=Boxed.new (w.alloc (.cells #[.string ⟨#[119,111,114,100,115]⟩,.slice p1 n1 c1,.slice p2 n2 c2,.int .i64 x,.int .i64 z] 96)) 116 (.func (.func 296) #[] #[.pointer (some ⟨w.heap.size+1+1,0,none⟩)])
  simpa using this
 have by1:=bx.alloc (.cells #[.func (.func 200) #[] #[]] 372)
 have bz:Boxed (((w.alloc (.cells #[.string ⟨#[119,111,114,100,115]⟩,.slice p1 n1 c1,.slice p2 n2 c2,.int .i64 x,.int .i64 z] 96)).alloc (.cells #[(.func (.func 296) #[] #[.pointer (some ⟨w.heap.size+1+1,0,none⟩)])] 116)).alloc (.cells #[.func (.func 200) #[] #[]] 372)) (w.heap.size+1+1) 372 (.func (.func 200) #[] #[]):=by
  have:=Boxed.new ((w.alloc (.cells #[.string ⟨#[119,111,114,100,115]⟩,.slice p1 n1 c1,.slice p2 n2 c2,.int .i64 x,.int .i64 z] 96)).alloc (.cells #[(.func (.func 296) #[] #[.pointer (some ⟨w.heap.size+1+1,0,none⟩)])] 116)) 372 (.func (.func 200) #[] #[])
  simpa using this
 go_enter Tryz.func128,Tryz.ntmps128
 go_wp2_with (go_at_call 199;refine (rows_any 200 _).mono ?_;rintro e w' ⟨rfl,rfl⟩)
 have hB:Below w.heap.size w (((w.alloc (.cells #[.string ⟨#[119,111,114,100,115]⟩,.slice p1 n1 c1,.slice p2 n2 c2,.int .i64 x,.int .i64 z] 96)).alloc (.cells #[(.func (.func 296) #[] #[.pointer (some ⟨w.heap.size+1+1,0,none⟩)])] 116)).alloc (.cells #[.func (.func 200) #[] #[]] 372)):=((Below.refl _ w).alloc (Nat.le_refl _) _).alloc (by simp) _ |>.alloc (by simp;omega) _
 refine bodyPost_ret (res101 rfl by1.cell) rfl ?_
 exact ⟨w.heap.size+1+1,rfl,bz,by omega,hB⟩
set_option maxRecDepth 100000 in
set_option maxHeartbeats 1000000 in
theorem makeLate_low (p1 p2:Option Addr) (n1 c1 n2 c2:Nat) (x z:Int) (w:World) :
  Calls Tryz.prog 129 #[.agg #[.string ⟨#[108,111,119]⟩,.slice p1 n1 c1,.slice p2 n2 c2,.int .i64 x,.int .i64 z]] w fun e w'=>e=.returned (.agg #[.func (.func 203) #[] #[]])∧Below w.heap.size w w':=by
 have bx:Boxed ((w.alloc (.cells #[.string ⟨#[108,111,119]⟩,.slice p1 n1 c1,.slice p2 n2 c2,.int .i64 x,.int .i64 z] 96)).alloc (.cells #[.func (.func 203) #[] #[]] 194)) (w.heap.size+1) 194 (.func (.func 203) #[] #[]):=by
  have:=Boxed.new (w.alloc (.cells #[.string ⟨#[108,111,119]⟩,.slice p1 n1 c1,.slice p2 n2 c2,.int .i64 x,.int .i64 z] 96)) 194 (.func (.func 203) #[] #[])
  simpa using this
 go_enter Tryz.func129,Tryz.ntmps129
 go_wp2
 have hB:Below w.heap.size w ((w.alloc (.cells #[.string ⟨#[108,111,119]⟩,.slice p1 n1 c1,.slice p2 n2 c2,.int .i64 x,.int .i64 z] 96)).alloc (.cells #[.func (.func 203) #[] #[]] 194)):=((Below.refl _ w).alloc (Nat.le_refl _) _).alloc (by simp) _
 refine bodyPost_ret (res102 rfl bx.cell) rfl ?_
 exact ⟨rfl,hB⟩
end Go.Proofs.YtcmgclckknpecaaGreatDoor
