/-
  The law FnDeskLine,in plain words: it is true of every argument. Conditions: none.
-/
import Derived.Test.YthjlnoplibeclaaGreatDoorHFnDeskLine
set_option linter.all false
namespace Go.Rv
theorem apb (x:List Int) (w: ∀n∈x,(Lit.int .u8 n).wf=true) (l:x.length<=maxLen):Kc x=some true:=by
 unfold Kc An
 by_cases c:((x.length:Nat):Int)>1048576
 ·rw[ax c]
  rfl
 rw[aV c]
 obtain⟨b,i,a⟩:=akK x w l
 obtain⟨u,d,j,A,B,sm⟩:=aoY a 12 (by omega) (p:=0) (by omega) (by omega)
 obtain⟨s,r,m,_,_,C⟩:=ao0 a d.1 (by have:=sm.1;omega) (p:=u) (by omega) (by omega)
 have f:E1 x=some (s,d.1,d.2):=by
  unfold E1 w2
  simp only[i,j,m,ac]
 have t:=abu d s (by omega)
 have v:=anb d s (by omega) (by have:=sm.2.1;omega) (fun o=>aaE (kZ o).1)
 have h:nw d.1 d.2=some (cS d):=Lj d.1 d.2 (by have:=sm.2.1;omega)
 have q:=abu d ByteArray.empty (by decide)
 have same:=abA _ (fx d s).2 (ao5 d s)
 rw[gO] at same
 simp only[aq,f,ac,t,v,same,h,q,jL,bo,apa]
 cases o:cS d with
 |false=>
  have z:fx d s=(ByteArray.empty,[],[]):=by unfold fx;rw[if_neg (by simp[o])]
  simp only[z,Bool.not_false,au,ao7,ac,jL]
 |true=>
  have ok:nz (fx d s).2.1 (fx d s).2.2=some true:=by rw[Lx];exact aR some (aby s o)
  have e:kE d.1 d.2 d.1 d.2=some true:=by rw[abA d d sm,gO]
  have y:aD BI (ByteArray.mk #[119,104,97,116])=true:=jL _
  simp only[ao4 o,bo,aq,ok,ac,au,e,y]
  cases k:aD (fx d s).1 (ByteArray.mk #[111,107]) with
  |true=>rfl
  |false=>
   have st:(fx d s).2=d:=by
    revert k
    unfold fx
    rw[aB o]
    by_cases r:(bO s).1=true
    ·rw[aB r]
     cases g:(eg d ((bO s).2.1,(bO s).2.2.1,(bO s).2.2.2,())).1 with
     |true=>intro k;exact absurd (show aD okW (ByteArray.mk #[111,107])=true from jL _) (by simpa using k)
     |false=>intro _;exact alp _ o g
    ·rw[aG r]
     intro _
     rfl
   rw[st,e]
   rfl
end Go.Rv
