
/-
 Texts joined: F6.
-/
import Derived.Test.YtfgelheiknmjgaaGreatDoorZs16
import Derived.Test.YtfgelheiknmjgaaGreatDoorZs19
import Derived.Test.YtfgelheiknmjgaaGreatDoorZs14
namespace Go.Proofs.YtfgelheiknmjgaaGreatDoor
open Go.RowKit
def df1 (fel:List Tk → Except Er (FldT × List Tk)) (del:List Tk → Except Er (DirT × List Tk)) (ts:List Tk):Except Er (DefT × List Tk):=exB (nmR ts.tail) fun q => exB (impP q.2) fun i => exB (drsR del i.2) fun d => exB (blR [123] [125] 64 fel d.2) fun f => .ok (⟨1,q.1,i.1,d.1,f.1,[],[]⟩,f.2)
def df2 (fel:List Tk → Except Er (FldT × List Tk)) (del:List Tk → Except Er (DirT × List Tk)) (ts:List Tk):Except Er (DefT × List Tk):=exB (nmR ts.tail) fun q => exB (drsR del q.2) fun d => exB (blR [123] [125] 64 fel d.2) fun f => .ok (⟨2,q.1,[],d.1,f.1,[],[]⟩,f.2)
def df3 (del:List Tk → Except Er (DirT × List Tk)) (ts:List Tk):Except Er (DefT × List Tk):=exB (nmR ts.tail) fun q => exB (drsR del q.2) fun d => exB (uniP d.2) fun f => .ok (⟨3,q.1,[],d.1,[],f.1,[]⟩,f.2)
def df4 (mel:List Tk → Except Er (MemT × List Tk)) (del:List Tk → Except Er (DirT × List Tk)) (ts:List Tk):Except Er (DefT × List Tk):=exB (nmR ts.tail) fun q => exB (drsR del q.2) fun d => exB (blR [123] [125] 64 mel d.2) fun f => .ok (⟨4,q.1,[],d.1,[],f.1,[]⟩,f.2)
def df5 (iel:List Tk → Except Er (InpT × List Tk)) (del:List Tk → Except Er (DirT × List Tk)) (ts:List Tk):Except Er (DefT × List Tk):=exB (nmR ts.tail) fun q => exB (drsR del q.2) fun d => exB (blR [123] [125] 16 iel d.2) fun f => .ok (⟨5,q.1,[],d.1,[],[],f.1⟩,f.2)
end Go.Proofs.YtfgelheiknmjgaaGreatDoor

