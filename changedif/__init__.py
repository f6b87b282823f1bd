"""Changed only if: a word is changed only if it compares in a certain way with a number."""
