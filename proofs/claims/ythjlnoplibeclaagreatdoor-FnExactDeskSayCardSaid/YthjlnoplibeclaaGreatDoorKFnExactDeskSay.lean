/-
  The checked code answers as the plain functions do; written by program. Conditions: none.
-/
import Derived.Test.YthjlnoplibeclaaGreatDoorKFnExactDeskSaya
import Derived.Test.YthjlnoplibeclaaGreatDoorFB
import Derived.Test.YthjlnoplibeclaaGreatDoorFB
import Derived.Test.YthjlnoplibeclaaGreatDoorFB
import Derived.Test.YthjlnoplibeclaaGreatDoorFB
import Derived.Test.YthjlnoplibeclaaGreatDoorProg
set_option maxRecDepth 100000
set_option linter.all false
namespace Go.Rv
open Go.Proofs
def apO:af Tryz.prog:=ak sq Tryz.func17 Tryz.call17 [WE,WF,ag1] false [(5,.d [5] []),(12,.t [⟨0,4,false,some 0,some ((.int .i64))⟩,⟨0,4,true,some 1,some ((.int .i64))⟩])] fun
 |[.agg [.aa (.list (.int .i64)) h,.aa (.list (.list (.int .i64))) i],.aa (.list .str) f],[]=>⟨ad.a (j3 h i f) fun t=>(.ba [.agg [.ab 2,.ab 3],.ab 1],[some (.box [.ab 2,.ab 3]),some (.seq .str t.1),some (sI t.2.1),some (.nest (.int .i64) t.2.2 0 [])]),by refine fi (fun t=> [(4,.ptr 0 0),(5,.ab 1)]) ?_ (.group 3 (.aK (fun _=>rfl) (fun c=>([(1,.aa (.list .str) f),(4,.ptr 0 0),(6,.ab 1),(7,.ptr 2 0)],[some (.box [.aM,.aM]),some (.seq .str ([]:List ByteArray)),some (.box [.ab 3,.ab 4]),some (sI c.1),some (.nest (.int .i64) c.2 0 [])])) (.ch ?_) fun c=>(.seq (fun e=>([(4,.ptr 0 0),(6,.ab 1),(7,.ptr 2 0)],[some (.box [.aM,.aM]),some (.seq .str e.1),some (.box [.ab 3,.ab 4]),some (sI e.2.1),some (.nest (.int .i64) e.2.2 0 [])])) (.seq (fun g=>([(1,.aa (.list .str) f),(4,.ptr 0 0),(6,.ab 1),(7,.ptr 2 0),(8,dI 0)],[some (.box [.aM,.aM]),some (.seq .str ([]:List ByteArray)),some (.box [.ab 3,.ab 4]),some (sI c.1),some (.nest (.int .i64) c.2 0 [])])) (.ch ?_) fun g=>(.block (fun _=>true) (fun _=>rfl) (.loop (fun _=>rfl) (fun b=>([(1,.aa (.list .str) f),(4,.ptr 0 0),(6,.ab 1),(7,.ptr 2 0),(8,dI b.1)],[some (.box [.aM,.aM]),some (.seq .str b.2.1),some (.box [.ab 3,.ab 4]),some (sI b.2.2.1),some (.nest (.int .i64) b.2.2.2 0 [])])) ?_ fun b=> .map (.ch ?_)))) fun e=>(.ch ?_))))<;>first|(intro j;simp only[l7,l8,g8,l9,ae];kernel_rfl)|kernel_rfl⟩
 |_,_=>aj
def apP:af Tryz.prog:=ak sq Tryz.func16 Tryz.call16 [W4,Ad,aji] false [(9,.d [4,6] [0,1,2,3,5,6,4,8,9,7,10]),(11,.t [⟨0,4,false,some 0,some ((.int .i64))⟩,⟨0,4,true,some 1,some ((.int .i64))⟩])] fun
 |[.agg [.aa (.list (.int .i64)) h,.aa (.list (.list (.int .i64))) i],.aa (.list .str) f],[]=>⟨ad.a (j5 h i f) fun t=>(.ba [.agg [.ab 2,.ab 3],.ab 1],[some (.box [.ab 2,.ab 3]),some (.seq .str t.1),some (sI t.2.1),some (.nest (.int .i64) t.2.2 0 [])]),by refine fi (fun t=> [(4,.ptr 0 0),(5,.ab 1)]) ?_ (.group 2 (.aK (fun _=>rfl) (fun b=>([(1,.aa (.list .str) f),(4,.ptr 0 0),(6,.ptr 1 0),(7,.ab 2)],[some (.box [.aM,.aM]),some (.box [.ab 3,.ab 4]),some (.seq .str b.1),some (sI b.2.1),some (.nest (.int .i64) b.2.2 0 [])])) (.ch ?_) fun b=>(.seq (fun e=>([(4,.ptr 0 0),(6,.ptr 1 0),(7,.ab 2)],[some (.box [.aM,.aM]),some (.box [.ab 3,.ab 4]),some (.seq .str e.1),some (sI e.2.1),some (.nest (.int .i64) e.2.2 0 [])])) (.seq (fun g=>([(4,.ptr 0 0),(6,.ptr 1 0),(7,.ab 2),(27,.aa (.list .str) f),(28,dI g),(29,dI 0)],[some (.box [.aM,.aM]),some (.box [.ab 3,.ab 4]),some (.seq .str b.1),some (sI b.2.1),some (.nest (.int .i64) b.2.2 0 [])])) (.ch ?_) fun g=>(.block (fun _=>true) (fun _=>rfl) (.loop (fun _=>rfl) (fun c=>([(4,.ptr 0 0),(6,.ptr 1 0),(7,.ab 2),(27,.aa (.list .str) f),(28,dI g),(29,dI c.1)],[some (.box [.aM,.aM]),some (.box [.ab 3,.ab 4]),some (.seq .str c.2.1),some (sI c.2.2.1),some (.nest (.int .i64) c.2.2.2 0 [])])) ?_ fun c=> .map (.ch ?_)))) fun e=>(.ch ?_))))<;>first|(intro j;simp only[m0,m1,g9,m2,ae];kernel_rfl)|kernel_rfl⟩
 |_,_=>aj
def apQ:af Tryz.prog:=ak sq Tryz.func27 Tryz.call27 [] false [] fun
 |[.aa (.list .str) b,.aa (.list .str) c],[]=>⟨ad.a (j6 b c) fun t=>(dB t,[]),by refine al ?_ (.group 1 (.aK (fun _=>rfl) (fun e=>([(0,.aa (.list .str) b),(1,.aa (.list .str) c)],[])) (.ch ?_) fun e=>(.aK (fun _=>rfl) (fun f=>([],[])) (.seq (fun g=>([(0,.aa (.list .str) b),(1,.aa (.list .str) c),(5,dI 0)],[])) (.ch ?_) fun g=>(.block (Sum.elim (fun _=>false) (fun _=>true)) (bf (fun _=>rfl) (fun _=>rfl)) (.loop (bf (fun _=>rfl) (fun _=>rfl)) (fun d=>([(0,.aa (.list .str) b),(1,.aa (.list .str) c),(5,dI d)],[])) ?_ fun d=> .map (.ch ?_)))) fun f=>(.ch ?_))))<;>first|(intro h;simp only[m3,m4,hp,m5,ae];kernel_rfl)|kernel_rfl⟩
 |_,_=>aj
def apt:af Tryz.prog:=ak sq Tryz.func78 Tryz.call78 [] false [(3,.t [⟨5,12,false,none,none⟩])] fun
 |[.aa (.int .i64) d],[]=>⟨ad.a (j8 d) fun t=>(dS t,[]),by refine al ?_ (.group 2 (.aK (fun _=>rfl) (fun e=>([(0,dI d),(3,dS ByteArray.empty)],[])) (.ch ?_) fun e=>(.seq (fun c=>([(3,dS c)],[])) (.block (fun _=>true) (fun _=>rfl) (.loop (fun _=>rfl) (fun b=>([(0,dI b.1),(3,dS b.2)],[])) ?_ fun b=> .map (.ch ?_))) fun c=>(.ch ?_))))<;>first|(intro f;simp only[m6,j7,m7,ae];kernel_rfl)|kernel_rfl⟩
 |_,_=>aj
def apR:af Tryz.prog:=ak sq Tryz.func28 Tryz.call28 [apt] false [] fun
 |[.ab 0,.aa (.int .i64) d],[some (.seq .str e)]=>⟨ad.a (j9 d e) fun t=>(dI t.1,[some (.seq .str t.2)]),by refine al ?_ (.seq (fun f=>([(0,.ab 0),(1,dI d)],[some (.seq .str e)])) (.ch ?_) fun f=>(.seq (fun c=>([(1,dI c.1)],[some (.seq .str c.2)])) (.seq (fun g=>([(0,.ab 0),(1,dI d),(5,dI 0)],[some (.seq .str e)])) (.ch ?_) fun g=>(.block (fun _=>true) (fun _=>rfl) (.loop (fun _=>rfl) (fun b=>([(0,.ab 0),(1,dI b.1),(5,dI b.2.1)],[some (.seq .str b.2.2)])) ?_ fun b=> .map (.ch ?_)))) fun c=>(.ch ?_)))<;>first|(intro h;simp only[m8,m9,f9,n0,ae];kernel_rfl)|kernel_rfl⟩
 |_,_=>aj
def apS:af Tryz.prog:=ak sq Tryz.func29 Tryz.call29 [apt] false [(7,.d [5] [])] fun
 |[.aa (.list .str) b,.aa (.int .i64) e],[]=>⟨ad.a (k0 b e) fun t=>(dI t,[]),by refine al ?_ (.seq (fun g=>([(0,.aa (.list .str) b),(1,dI e)],[])) (.ch ?_) fun g=>(.aK (fun _=>rfl) (fun f=>([(1,dI f)],[])) (.seq (fun h=>([(0,.aa (.list .str) b),(1,dI e),(5,dI 0)],[])) (.ch ?_) fun h=>(.block (Sum.elim (fun _=>false) (fun _=>true)) (bf (fun _=>rfl) (fun _=>rfl)) (.loop (bf (fun _=>rfl) (fun _=>rfl)) (fun c=>([(0,.aa (.list .str) b),(1,dI c.1),(5,dI c.2)],[])) ?_ fun c=> .map (.ch ?_)))) fun f=>(.ch ?_)))<;>first|(intro i;simp only[n1,n2,h0,n3,ae];kernel_rfl)|kernel_rfl⟩
 |_,_=>aj
def apu:af Tryz.prog:=ak sq Tryz.func6 Tryz.call6 [af0,apM,af2,apN,apO,apP,ajk,apQ,ajm,apR,ajo,apS] false [(54,.d [2,3] [])] fun
 |[.agg [.aa (.list (.int .i64)) c,.aa (.list (.list (.int .i64))) e],.aa (.list .str) f],[]=>⟨ad.a (n6 c e f) fun t=>(dB t,[]),by refine al ?_ (.group 26 (.aK (fun _=>rfl) (fun b=>([(6,.ptr 0 0),(7,.ab 1),(10,.ptr 2 0),(11,.ab 3),(13,dI b.1),(15,.ptr 4 0),(16,.ab 5)],[some (.box [.ab 6,.ab 7]),some (.seq .str b.2.1),some (.box [.ab 8,.ab 9]),some (.seq .str b.2.2.1),some (.box [.ab 10,.ab 11]),some (.seq .str b.2.2.2.1),some (sI b.2.2.2.2.1),some (.nest (.int .i64) b.2.2.2.2.2.1 0 []),some (sI b.2.2.2.2.2.2.1),some (.nest (.int .i64) b.2.2.2.2.2.2.2.1 0 []),some (sI b.2.2.2.2.2.2.2.2.1),some (.nest (.int .i64) b.2.2.2.2.2.2.2.2.2 0 [])])) (.ch ?_) fun b=>(.ch ?_)))<;>first|(intro g;simp only[n4,n5,ae];kernel_rfl)|kernel_rfl⟩
 |_,_=>aj
def apT:bd:=apu.F
theorem apU:Sound Tryz.prog 6 apT:=apu.s
end Go.Rv
